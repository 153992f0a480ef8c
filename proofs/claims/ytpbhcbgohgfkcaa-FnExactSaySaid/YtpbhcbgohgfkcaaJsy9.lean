/- Joined texts: Mb Mo Mp. -/
import Derived.Test.YtpbhcbgohgfkcaaJsy1
import Derived.Test.YtpbhcbgohgfkcaaJsy2
import Derived.Test.YtpbhcbgohgfkcaaJsy3
import Derived.Test.YtpbhcbgohgfkcaaJsy4
import Derived.Test.YtpbhcbgohgfkcaaJsy5
import Derived.Test.YtpbhcbgohgfkcaaJsy6
import Derived.Test.YtpbhcbgohgfkcaaJsy7
import Derived.Test.YtpbhcbgohgfkcaaJsy8
import Derived.BigQuiet
import Derived.Deep.QuietTactic
/- A member at work: the walks over memberOf and mate. Written by gen_mb.py. -/
namespace Go.Proofs.Ytpbhcbgohgfkcaa
open Go.RowKit Pl
set_option linter.unusedVariables false
set_option linter.unusedSimpArgs false

theorem Try.sizeB : (Try.prog.info? 107).map (·.size) = some 17 := by kernel_rfl
theorem copyItems_s (s : Sv) (ts : List It) (w : World) (h : Hid (RIt w s.v ts)) (hl : ts.length ≤ 1048576) (hs : Hid (∀ x ∈ ts, x.2.2.2.size ≤ 1048576)) :
    Calls Try.prog 108 #[.slice s.a s.n s.c] w fun e w' => ∃ u : Sv, e = .returned (.slice u.a u.n u.c) ∧ SlI w' w.heap.size u.v ts ∧ Below w.heap.size w w' := by
  obtain ⟨ao, cap, h1, h2⟩ := h.out; unfold Sv.v at h1; rw [h1]
  exact (copyItems_any ao cap ts w h2 hl hs).mono fun e w' ⟨v, a, b, c⟩ => by obtain ⟨u, rfl⟩ := b.sv; exact ⟨u, a, b, c⟩
theorem copyTexts_s (s : Sv) (ts : List ByteArray) (w : World) (h : Hid (RT w s.v ts)) (hl : ts.length ≤ 1048576) (hs : Hid (∀ x ∈ ts, x.size ≤ 1048576)) :
    Calls Try.prog 109 #[.slice s.a s.n s.c] w fun e w' => ∃ u : Sv, e = .returned (.slice u.a u.n u.c) ∧ OwnS w' w.heap.size u.v ts ∧ Below w.heap.size w w' := by
  obtain ⟨ao, cap, h1, h2⟩ := h.out; unfold Sv.v at h1; rw [h1]
  exact (copyTexts_any ao cap ts w h2 hl hs).mono fun e w' ⟨v, a, b, c⟩ => by obtain ⟨u, rfl⟩ := b.sv; exact ⟨u, a, b, c⟩
theorem copyRing_s (i : Int) (s : Sv) (ms : List Int) (w : World) (h : Hid (RI w s.v ms)) (hl : ms.length ≤ 1048576) :
    Calls Try.prog 61 #[.agg #[.int .i64 i, .slice s.a s.n s.c]] w fun e w' => ∃ u : Sv, e = .returned (.agg #[.int .i64 i, .slice u.a u.n u.c]) ∧ OwnI w' w.heap.size u.v ms ∧ Below w.heap.size w w' :=
  (copyRing_any i s.v ms w h hl).mono fun e w' ⟨v, a, b, c⟩ => by obtain ⟨u, rfl⟩ := b.sv; exact ⟨u, a, b, c⟩

/-- a member at work: what its box holds; its items stand in its store alone, 'it' is what its Mate has in their place. -/
def MbB (w : World) (g : Nat) (m : Mt) (u : Mv) (it : Sv) : Prop := Bx w g 107 [.slice u.its.a u.its.n u.its.c, .int .i64 m.id, .int .i64 m.rid, .slice u.ms.a u.ms.n u.ms.c, .slice it.a it.n it.c, .slice u.lv.a u.lv.n u.lv.c, .slice u.tx.a u.tx.n u.tx.c, .int .i64 m.rd, .int .i64 m.se, .int .i64 m.li, .int .i64 m.he, .int .i64 m.la.c, .int .i64 m.la.r, .int .i64 m.la.q, .int .i64 m.la.a, .int .i64 m.la.b, .slice u.ws.a u.ws.n u.ws.c]

set_option maxRecDepth 100000 in
set_option maxHeartbeats 4000000 in
theorem memberOf_any (m : Mt) (v : Mv) (w : World) (h : Hid (MtP w m v)) (hs : Hid (MtS m)) :
    Calls Try.prog 47 #[.agg #[.int .i64 m.id, .int .i64 m.rid, .slice v.ms.a v.ms.n v.ms.c, .slice v.its.a v.its.n v.its.c, .slice v.lv.a v.lv.n v.lv.c, .slice v.tx.a v.tx.n v.tx.c, .int .i64 m.rd, .int .i64 m.se, .int .i64 m.li, .int .i64 m.he, .int .i64 m.la.c, .int .i64 m.la.r, .int .i64 m.la.q, .int .i64 m.la.a, .int .i64 m.la.b, .slice v.ws.a v.ws.n v.ws.c]] w fun e w' => ∃ (g : Nat) (u : Mv), e = .returned (.pointer (some ⟨g, 0, none⟩)) ∧ MbB w' g m u zSv ∧ MtO w' w.heap.size m u ∧ w.heap.size ≤ g ∧ Below w.heap.size w w' := by
  have HA : Hid (MtB (w.alloc (.cells #[.int .i64 m.id, .int .i64 m.rid, .slice v.ms.a v.ms.n v.ms.c, .slice v.its.a v.its.n v.its.c, .slice v.lv.a v.lv.n v.lv.c, .slice v.tx.a v.tx.n v.tx.c, .int .i64 m.rd, .int .i64 m.se, .int .i64 m.li, .int .i64 m.he, .int .i64 m.la.c, .int .i64 m.la.r, .int .i64 m.la.q, .int .i64 m.la.a, .int .i64 m.la.b, .slice v.ws.a v.ws.n v.ws.c] 32)) w.heap.size 32 m v) := Bx.new w 32 _
  have HB : Hid (Below w.heap.size w (w.alloc (.cells #[.int .i64 m.id, .int .i64 m.rid, .slice v.ms.a v.ms.n v.ms.c, .slice v.its.a v.its.n v.its.c, .slice v.lv.a v.lv.n v.lv.c, .slice v.tx.a v.tx.n v.tx.c, .int .i64 m.rd, .int .i64 m.se, .int .i64 m.li, .int .i64 m.he, .int .i64 m.la.c, .int .i64 m.la.r, .int .i64 m.la.q, .int .i64 m.la.a, .int .i64 m.la.b, .slice v.ws.a v.ws.n v.ws.c] 32))) := (Below.refl _ _).alloc (Nat.le_refl _) _
  go_enter Try.func47, Try.ntmps47
  go_wp2_with fail
  generalize w.alloc (.cells #[.int .i64 m.id, .int .i64 m.rid, .slice v.ms.a v.ms.n v.ms.c, .slice v.its.a v.its.n v.its.c, .slice v.lv.a v.lv.n v.lv.c, .slice v.tx.a v.tx.n v.tx.c, .int .i64 m.rd, .int .i64 m.se, .int .i64 m.li, .int .i64 m.he, .int .i64 m.la.c, .int .i64 m.la.r, .int .i64 m.la.q, .int .i64 m.la.a, .int .i64 m.la.b, .slice v.ws.a v.ws.n v.ws.c] 32) = W at *
  have HA0 : Hid (MtB W w.heap.size 32 m v) := HA.out
  have zW : Hid (W.heap.size ≥ w.heap.size) := HB.out.size
  have SI : Hid (RIt W.drew v.its.v m.its) := h.out.its.rit.stays HB.out.drew
  refine wp_region_held_drew (S := fun w' => Below W.heap.size W w') (by kernel_rfl) (Below.refl _ _).drew (fun hHeld => ?_)
  refine wpAnyH_take (i := 0) (v := ?v0) rfl (by kernel_rfl) (by kernel_rfl) (by kernel_rfl) (fun _ _ _ h => h) (Or.inl ⟨by rfl, ?hy0⟩) (by assumption) ?_
  case hy0 => (intro w hSw; (try dsimp only at hSw); simp only [List.getElem_toArray, List.getElem_cons_zero, List.getElem_cons_succ]; go_simp; try with_reducible rfl)
  try simp only [Act.put, List.getElem_toArray, List.getElem_cons_zero, List.getElem_cons_succ, List.setIfInBounds_toArray, List.set_cons_zero, List.set_cons_succ]
  refine wpAnyH_take (i := 1) (v := _) rfl (by kernel_rfl) (by kernel_rfl) (by kernel_rfl) (fun _ _ _ h => h) (ld1_yield (by rfl) 27 _ rfl w.heap.size 3 rfl 32 _ (fun w hS => Bx.later HA.out hS) (.slice v.its.a v.its.n v.its.c) rfl _ Try.underlying27 rfl) (by assumption) ?_
  try simp only [Act.put, List.getElem_toArray, List.getElem_cons_zero, List.getElem_cons_succ, List.setIfInBounds_toArray, List.set_cons_zero, List.set_cons_succ]
  refine wpAnyH_take (i := 3) (v := _) rfl (by kernel_rfl) (by kernel_rfl) (by kernel_rfl) (fun _ _ _ h => h) (ld_yield (by rfl) 32 _ rfl w.heap.size 0 rfl 32 _ (fun w hS => Bx.later HA.out hS) [.int .i64 m.id, .int .i64 m.rid, .slice v.ms.a v.ms.n v.ms.c, .slice v.its.a v.its.n v.its.c, .slice v.lv.a v.lv.n v.lv.c, .slice v.tx.a v.tx.n v.tx.c, .int .i64 m.rd, .int .i64 m.se, .int .i64 m.li, .int .i64 m.he, .int .i64 m.la.c, .int .i64 m.la.r, .int .i64 m.la.q, .int .i64 m.la.a, .int .i64 m.la.b, .slice v.ws.a v.ws.n v.ws.c] rfl _ Try.underlying32 rfl Try.sizeM) (by assumption) ?_
  try simp only [Act.put, List.getElem_toArray, List.getElem_cons_zero, List.getElem_cons_succ, List.setIfInBounds_toArray, List.set_cons_zero, List.set_cons_succ]
  refine wpAnyH_ready (rs := [2]) (by kernel_rfl) (by simp) ?_
  refine AllReadyH.cons (i := 2) rfl (fun K hK => ?_) AllReadyH.nil
  rw [if_pos (by rfl)]
  simp only [List.getElem_toArray, List.getElem_cons_zero, List.getElem_cons_succ]
  go_simp
  refine (copyItems_s v.its m.its _ SI hs.out.its hs.out.it).mono ?_
  rintro e w1 ⟨uits, rfl, o1, b1⟩
  have c1 : Below W.heap.size W w1 := (Below.refl W.heap.size W).drew.trans b1
  have Xits : Hid (SlI w1 W.heap.size uits.v m.its) := o1
  refine hK.out _ _ (c1) (fun hHeld => ?_)
  clear hK K
  try simp only [Act.put, List.getElem_toArray, List.getElem_cons_zero, List.getElem_cons_succ, List.setIfInBounds_toArray, List.set_cons_zero, List.set_cons_succ]
  refine wpAnyH_take (i := 4) (v := ?v4) rfl (by kernel_rfl) (by kernel_rfl) (by kernel_rfl) (fun _ _ _ h => h) (Or.inl ⟨by rfl, ?hy4⟩) (by assumption) ?_
  case hy4 => (intro w hSw; (try dsimp only at hSw); simp only [List.getElem_toArray, List.getElem_cons_zero, List.getElem_cons_succ]; go_simp; try with_reducible rfl)
  try simp only [Act.put, List.getElem_toArray, List.getElem_cons_zero, List.getElem_cons_succ, List.setIfInBounds_toArray, List.set_cons_zero, List.set_cons_succ]
  refine wpAnyH_ready (rs := [5]) (by kernel_rfl) (by simp) ?_
  refine AllReadyH.cons (i := 5) rfl (fun K hK => ?_) AllReadyH.nil
  rw [if_pos (by rfl)]
  simp only [List.getElem_toArray, List.getElem_cons_zero, List.getElem_cons_succ]
  go_simp
  refine hK.out _ _ (c1.alloc c1.size _) (fun hHeld => ?_)
  clear hK K
  try simp only [Act.put, List.getElem_toArray, List.getElem_cons_zero, List.getElem_cons_succ, List.setIfInBounds_toArray, List.set_cons_zero, List.set_cons_succ]
  refine wpAnyH_take (i := 6) (v := ?v6) rfl (by kernel_rfl) (by kernel_rfl) (by kernel_rfl) (fun _ _ _ h => h) (Or.inl ⟨by rfl, ?hy6⟩) (by assumption) ?_
  case hy6 => (intro w hSw; (try dsimp only at hSw); simp only [List.getElem_toArray, List.getElem_cons_zero, List.getElem_cons_succ]; go_simp; try with_reducible rfl)
  try simp only [Act.put, List.getElem_toArray, List.getElem_cons_zero, List.getElem_cons_succ, List.setIfInBounds_toArray, List.set_cons_zero, List.set_cons_succ]
  refine wpAnyH_done (by kernel_rfl) ?_ _
  have HG : Hid (Bx (w1.alloc (.cells #[.slice uits.a uits.n uits.c, .int .i64 m.id, .int .i64 m.rid, .slice v.ms.a v.ms.n v.ms.c, .slice v.its.a v.its.n v.its.c, .slice v.lv.a v.lv.n v.lv.c, .slice v.tx.a v.tx.n v.tx.c, .int .i64 m.rd, .int .i64 m.se, .int .i64 m.li, .int .i64 m.he, .int .i64 m.la.c, .int .i64 m.la.r, .int .i64 m.la.q, .int .i64 m.la.a, .int .i64 m.la.b, .slice v.ws.a v.ws.n v.ws.c] 107)) w1.heap.size 107 [.slice uits.a uits.n uits.c, .int .i64 m.id, .int .i64 m.rid, .slice v.ms.a v.ms.n v.ms.c, .slice v.its.a v.its.n v.its.c, .slice v.lv.a v.lv.n v.lv.c, .slice v.tx.a v.tx.n v.tx.c, .int .i64 m.rd, .int .i64 m.se, .int .i64 m.li, .int .i64 m.he, .int .i64 m.la.c, .int .i64 m.la.r, .int .i64 m.la.q, .int .i64 m.la.a, .int .i64 m.la.b, .slice v.ws.a v.ws.n v.ws.c]) := Bx.new w1 107 _
  have bb : Below w1.heap.size w1 (w1.alloc (.cells #[.slice uits.a uits.n uits.c, .int .i64 m.id, .int .i64 m.rid, .slice v.ms.a v.ms.n v.ms.c, .slice v.its.a v.its.n v.its.c, .slice v.lv.a v.lv.n v.lv.c, .slice v.tx.a v.tx.n v.tx.c, .int .i64 m.rd, .int .i64 m.se, .int .i64 m.li, .int .i64 m.he, .int .i64 m.la.c, .int .i64 m.la.r, .int .i64 m.la.q, .int .i64 m.la.a, .int .i64 m.la.b, .slice v.ws.a v.ws.n v.ws.c] 107)) := (Below.refl _ _).alloc (Nat.le_refl _) _
  have Xits : Hid (SlI (w1.alloc (.cells #[.slice uits.a uits.n uits.c, .int .i64 m.id, .int .i64 m.rid, .slice v.ms.a v.ms.n v.ms.c, .slice v.its.a v.its.n v.its.c, .slice v.lv.a v.lv.n v.lv.c, .slice v.tx.a v.tx.n v.tx.c, .int .i64 m.rd, .int .i64 m.se, .int .i64 m.li, .int .i64 m.he, .int .i64 m.la.c, .int .i64 m.la.r, .int .i64 m.la.q, .int .i64 m.la.a, .int .i64 m.la.b, .slice v.ws.a v.ws.n v.ws.c] 107)) W.heap.size uits.v m.its) := Xits.out.below bb
  have HA : Hid (MtB (w1.alloc (.cells #[.slice uits.a uits.n uits.c, .int .i64 m.id, .int .i64 m.rid, .slice v.ms.a v.ms.n v.ms.c, .slice v.its.a v.its.n v.its.c, .slice v.lv.a v.lv.n v.lv.c, .slice v.tx.a v.tx.n v.tx.c, .int .i64 m.rd, .int .i64 m.se, .int .i64 m.li, .int .i64 m.he, .int .i64 m.la.c, .int .i64 m.la.r, .int .i64 m.la.q, .int .i64 m.la.a, .int .i64 m.la.b, .slice v.ws.a v.ws.n v.ws.c] 107)) w.heap.size 32 m v) := Bx.later (Bx.later HA.out c1) bb
  have HB : Hid (Below w.heap.size w (w1.alloc (.cells #[.slice uits.a uits.n uits.c, .int .i64 m.id, .int .i64 m.rid, .slice v.ms.a v.ms.n v.ms.c, .slice v.its.a v.its.n v.its.c, .slice v.lv.a v.lv.n v.lv.c, .slice v.tx.a v.tx.n v.tx.c, .int .i64 m.rd, .int .i64 m.se, .int .i64 m.li, .int .i64 m.he, .int .i64 m.la.c, .int .i64 m.la.r, .int .i64 m.la.q, .int .i64 m.la.a, .int .i64 m.la.b, .slice v.ws.a v.ws.n v.ws.c] 107))) := bl_next (bl_next HB.out c1) bb
  have zg : Hid (w.heap.size < w1.heap.size) := Nat.lt_of_lt_of_le (Bx.lt HA0.out) c1.size
  clear o1 b1 c1 bb hHeld SI
  generalize w1.alloc (.cells #[.slice uits.a uits.n uits.c, .int .i64 m.id, .int .i64 m.rid, .slice v.ms.a v.ms.n v.ms.c, .slice v.its.a v.its.n v.its.c, .slice v.lv.a v.lv.n v.lv.c, .slice v.tx.a v.tx.n v.tx.c, .int .i64 m.rd, .int .i64 m.se, .int .i64 m.li, .int .i64 m.he, .int .i64 m.la.c, .int .i64 m.la.r, .int .i64 m.la.q, .int .i64 m.la.a, .int .i64 m.la.b, .slice v.ws.a v.ws.n v.ws.c] 107) = W1 at *
  generalize w1.heap.size = g at *
  have zg := zg.out
  have HG0 : Hid (Bx W1 g 107 [.slice uits.a uits.n uits.c, .int .i64 m.id, .int .i64 m.rid, .slice v.ms.a v.ms.n v.ms.c, .slice v.its.a v.its.n v.its.c, .slice v.lv.a v.lv.n v.lv.c, .slice v.tx.a v.tx.n v.tx.c, .int .i64 m.rd, .int .i64 m.se, .int .i64 m.li, .int .i64 m.he, .int .i64 m.la.c, .int .i64 m.la.r, .int .i64 m.la.q, .int .i64 m.la.a, .int .i64 m.la.b, .slice v.ws.a v.ws.n v.ws.c]) := HG.out
  have zW1 : Hid (w.heap.size ≤ W1.heap.size) := HB.out.size
  go_wp2_with (first | (refine wpList_ldG rfl 26 _ rfl w.heap.size 1 rfl 32 _ HA.out [.int .i64 m.rid, .slice v.ms.a v.ms.n v.ms.c] rfl _ Try.underlying26 rfl Try.sizeR ?_))
  refine (copyRing_s m.rid v.ms m.ms _ (h.out.ms.ri.stays HB.out) hs.out.ms).mono ?_
  rintro e w2 ⟨ums, rfl, ho, b⟩
  have Xms : Hid (OwnI w2 W1.heap.size ums.v m.ms) := ho
  have LOms : Hid (W1.heap.size ≤ w2.heap.size) := b.size
  have HA : Hid (Bx w2 w.heap.size 32 [.int .i64 m.id, .int .i64 m.rid, .slice v.ms.a v.ms.n v.ms.c, .slice v.its.a v.its.n v.its.c, .slice v.lv.a v.lv.n v.lv.c, .slice v.tx.a v.tx.n v.tx.c, .int .i64 m.rd, .int .i64 m.se, .int .i64 m.li, .int .i64 m.he, .int .i64 m.la.c, .int .i64 m.la.r, .int .i64 m.la.q, .int .i64 m.la.a, .int .i64 m.la.b, .slice v.ws.a v.ws.n v.ws.c]) := Bx.later HA.out b
  have HG : Hid (Bx w2 g 107 [.slice uits.a uits.n uits.c, .int .i64 m.id, .int .i64 m.rid, .slice v.ms.a v.ms.n v.ms.c, .slice v.its.a v.its.n v.its.c, .slice v.lv.a v.lv.n v.lv.c, .slice v.tx.a v.tx.n v.tx.c, .int .i64 m.rd, .int .i64 m.se, .int .i64 m.li, .int .i64 m.he, .int .i64 m.la.c, .int .i64 m.la.r, .int .i64 m.la.q, .int .i64 m.la.a, .int .i64 m.la.b, .slice v.ws.a v.ws.n v.ws.c]) := HG.out.later b
  have HB : Hid (Below w.heap.size w w2) := bl_next HB.out b
  have K1 : Hid (KeepBut g W1 w2) := keep_of_below b
  have BXms : Hid (Bx w2 g 107 [.slice uits.a uits.n uits.c, .int .i64 m.id, .int .i64 m.rid, .slice v.ms.a v.ms.n v.ms.c, .slice v.its.a v.its.n v.its.c, .slice v.lv.a v.lv.n v.lv.c, .slice v.tx.a v.tx.n v.tx.c, .int .i64 m.rd, .int .i64 m.se, .int .i64 m.li, .int .i64 m.he, .int .i64 m.la.c, .int .i64 m.la.r, .int .i64 m.la.q, .int .i64 m.la.a, .int .i64 m.la.b, .slice v.ws.a v.ws.n v.ws.c]) := HG.out
  clear ho b
  go_wp2_with (first | (refine wpList_stB rfl 26 _ _ rfl g 2 rfl 107 _ HG.out [.int .i64 m.rid, .slice ums.a ums.n ums.c] rfl (by simp) Try.sizeR rfl [.slice uits.a uits.n uits.c, .int .i64 m.id, .int .i64 m.rid, .slice ums.a ums.n ums.c, .slice v.its.a v.its.n v.its.c, .slice v.lv.a v.lv.n v.lv.c, .slice v.tx.a v.tx.n v.tx.c, .int .i64 m.rd, .int .i64 m.se, .int .i64 m.li, .int .i64 m.he, .int .i64 m.la.c, .int .i64 m.la.r, .int .i64 m.la.q, .int .i64 m.la.a, .int .i64 m.la.b, .slice v.ws.a v.ws.n v.ws.c] rfl ?_; intro w3 OB TB; have K2 : Hid (KeepBut g w2 w3) := TB.keep; have HA : Hid (Bx w3 w.heap.size 32 [.int .i64 m.id, .int .i64 m.rid, .slice v.ms.a v.ms.n v.ms.c, .slice v.its.a v.its.n v.its.c, .slice v.lv.a v.lv.n v.lv.c, .slice v.tx.a v.tx.n v.tx.c, .int .i64 m.rd, .int .i64 m.se, .int .i64 m.li, .int .i64 m.he, .int .i64 m.la.c, .int .i64 m.la.r, .int .i64 m.la.q, .int .i64 m.la.a, .int .i64 m.la.b, .slice v.ws.a v.ws.n v.ws.c]) := Bx.turn HA.out TB (by omega); have HB : Hid (Below w.heap.size w w3) := HB.out.trans (TB.below (by omega)); have HG : Hid (Bx w3 g 107 [.slice uits.a uits.n uits.c, .int .i64 m.id, .int .i64 m.rid, .slice ums.a ums.n ums.c, .slice v.its.a v.its.n v.its.c, .slice v.lv.a v.lv.n v.lv.c, .slice v.tx.a v.tx.n v.tx.c, .int .i64 m.rd, .int .i64 m.se, .int .i64 m.li, .int .i64 m.he, .int .i64 m.la.c, .int .i64 m.la.r, .int .i64 m.la.q, .int .i64 m.la.a, .int .i64 m.la.b, .slice v.ws.a v.ws.n v.ws.c]) := OB; clear OB TB) | (refine wpList_st1 rfl 27 _ _ rfl g 4 rfl 107 _ HG.out (.slice none 0 0) rfl (by simp) rfl Try.sizeIs [.slice uits.a uits.n uits.c, .int .i64 m.id, .int .i64 m.rid, .slice ums.a ums.n ums.c, .slice none 0 0, .slice v.lv.a v.lv.n v.lv.c, .slice v.tx.a v.tx.n v.tx.c, .int .i64 m.rd, .int .i64 m.se, .int .i64 m.li, .int .i64 m.he, .int .i64 m.la.c, .int .i64 m.la.r, .int .i64 m.la.q, .int .i64 m.la.a, .int .i64 m.la.b, .slice v.ws.a v.ws.n v.ws.c] rfl ?_; intro w4 OB TB; have K3 : Hid (KeepBut g w3 w4) := TB.keep; have HA : Hid (Bx w4 w.heap.size 32 [.int .i64 m.id, .int .i64 m.rid, .slice v.ms.a v.ms.n v.ms.c, .slice v.its.a v.its.n v.its.c, .slice v.lv.a v.lv.n v.lv.c, .slice v.tx.a v.tx.n v.tx.c, .int .i64 m.rd, .int .i64 m.se, .int .i64 m.li, .int .i64 m.he, .int .i64 m.la.c, .int .i64 m.la.r, .int .i64 m.la.q, .int .i64 m.la.a, .int .i64 m.la.b, .slice v.ws.a v.ws.n v.ws.c]) := Bx.turn HA.out TB (by omega); have HB : Hid (Below w.heap.size w w4) := HB.out.trans (TB.below (by omega)); have HG : Hid (Bx w4 g 107 [.slice uits.a uits.n uits.c, .int .i64 m.id, .int .i64 m.rid, .slice ums.a ums.n ums.c, .slice none 0 0, .slice v.lv.a v.lv.n v.lv.c, .slice v.tx.a v.tx.n v.tx.c, .int .i64 m.rd, .int .i64 m.se, .int .i64 m.li, .int .i64 m.he, .int .i64 m.la.c, .int .i64 m.la.r, .int .i64 m.la.q, .int .i64 m.la.a, .int .i64 m.la.b, .slice v.ws.a v.ws.n v.ws.c]) := OB; clear OB TB) | (refine wpList_haltB _ _ _ rfl ?_))
  refine Stp.go ?_
  have zB4 : w.heap.size ≤ w4.heap.size := HB.out.size
  have HA2 : Hid (Bx (w4.alloc (.cells #[] 3)) w.heap.size 32 [.int .i64 m.id, .int .i64 m.rid, .slice v.ms.a v.ms.n v.ms.c, .slice v.its.a v.its.n v.its.c, .slice v.lv.a v.lv.n v.lv.c, .slice v.tx.a v.tx.n v.tx.c, .int .i64 m.rd, .int .i64 m.se, .int .i64 m.li, .int .i64 m.he, .int .i64 m.la.c, .int .i64 m.la.r, .int .i64 m.la.q, .int .i64 m.la.a, .int .i64 m.la.b, .slice v.ws.a v.ws.n v.ws.c]) := HA.out.later ((Below.refl _ _).alloc (Nat.le_refl _) _)
  have SR : Hid (RI (w4.alloc (.cells #[] 3)) (.slice v.lv.a v.lv.n v.lv.c) m.lv) := (h.out.lv.ri).stays (HB.out.trans (((Below.refl _ _).alloc (Nat.le_refl _) _).mono zB4))
  have OW : Hid (OwnI (w4.alloc (.cells #[] 3)) w4.heap.size (.slice (some ⟨w4.heap.size, 0, none⟩) 0 0) []) := OwnI.made w4 w4.heap.size (Nat.le_refl _)
  go_wp2_with (first | (refine wpList_ld1 rfl 24 _ rfl w.heap.size 4 rfl 32 _ HA2.out (.slice v.lv.a v.lv.n v.lv.c) rfl _ Try.underlying24 rfl ?_) | (at_builtin; refine wpList_catR rfl _ _ 24 rfl Try.underlying24 Try.info3' w4.heap.size (.slice (some ⟨w4.heap.size, 0, none⟩) 0 0) [] rfl OW.out (.slice v.lv.a v.lv.n v.lv.c) m.lv rfl SR.out (by have := hs.out.lv; simp; omega) (Nat.le_of_lt (by simp)) (fun h => by cases h) ?_; intro v5 w5 ho hg; have Xlv : Hid (OwnI w5 w4.heap.size v5 m.lv) := ho; have G5 : Hid ((w4.alloc (.cells #[] 3)).grownBy w5 (some w4.heap.size)) := hg; clear ho hg; refine Stp.here ?_))
  refine Stp.go ?_
  obtain ⟨ulv, hf⟩ := Xlv.out.sv
  subst hf
  have LOlv : Hid (w4.heap.size ≤ w5.heap.size) := (keepBut_grown (g := g) G5.out).size
  have HA : Hid (Bx w5 w.heap.size 32 [.int .i64 m.id, .int .i64 m.rid, .slice v.ms.a v.ms.n v.ms.c, .slice v.its.a v.its.n v.its.c, .slice v.lv.a v.lv.n v.lv.c, .slice v.tx.a v.tx.n v.tx.c, .int .i64 m.rd, .int .i64 m.se, .int .i64 m.li, .int .i64 m.he, .int .i64 m.la.c, .int .i64 m.la.r, .int .i64 m.la.q, .int .i64 m.la.a, .int .i64 m.la.b, .slice v.ws.a v.ws.n v.ws.c]) := HA.out.afterGrown G5.out
  have HG : Hid (Bx w5 g 107 [.slice uits.a uits.n uits.c, .int .i64 m.id, .int .i64 m.rid, .slice ums.a ums.n ums.c, .slice none 0 0, .slice v.lv.a v.lv.n v.lv.c, .slice v.tx.a v.tx.n v.tx.c, .int .i64 m.rd, .int .i64 m.se, .int .i64 m.li, .int .i64 m.he, .int .i64 m.la.c, .int .i64 m.la.r, .int .i64 m.la.q, .int .i64 m.la.a, .int .i64 m.la.b, .slice v.ws.a v.ws.n v.ws.c]) := HG.out.afterGrown G5.out
  have HB : Hid (Below w.heap.size w w5) := below_grown HB.out HB.out.size G5.out
  have K4 : Hid (KeepBut g w4 w5) := keepBut_grown G5.out
  have BXlv : Hid (Bx w5 g 107 [.slice uits.a uits.n uits.c, .int .i64 m.id, .int .i64 m.rid, .slice ums.a ums.n ums.c, .slice none 0 0, .slice v.lv.a v.lv.n v.lv.c, .slice v.tx.a v.tx.n v.tx.c, .int .i64 m.rd, .int .i64 m.se, .int .i64 m.li, .int .i64 m.he, .int .i64 m.la.c, .int .i64 m.la.r, .int .i64 m.la.q, .int .i64 m.la.a, .int .i64 m.la.b, .slice v.ws.a v.ws.n v.ws.c]) := HG.out
  clear HA2 SR OW G5
  go_wp2_with (first | (refine wpList_st1 rfl 24 _ _ rfl g 5 rfl 107 _ HG.out (.slice ulv.a ulv.n ulv.c) rfl (by simp) rfl Try.sizeNs [.slice uits.a uits.n uits.c, .int .i64 m.id, .int .i64 m.rid, .slice ums.a ums.n ums.c, .slice none 0 0, .slice ulv.a ulv.n ulv.c, .slice v.tx.a v.tx.n v.tx.c, .int .i64 m.rd, .int .i64 m.se, .int .i64 m.li, .int .i64 m.he, .int .i64 m.la.c, .int .i64 m.la.r, .int .i64 m.la.q, .int .i64 m.la.a, .int .i64 m.la.b, .slice v.ws.a v.ws.n v.ws.c] rfl ?_; intro w6 OB TB; have K5 : Hid (KeepBut g w5 w6) := TB.keep; have HA : Hid (Bx w6 w.heap.size 32 [.int .i64 m.id, .int .i64 m.rid, .slice v.ms.a v.ms.n v.ms.c, .slice v.its.a v.its.n v.its.c, .slice v.lv.a v.lv.n v.lv.c, .slice v.tx.a v.tx.n v.tx.c, .int .i64 m.rd, .int .i64 m.se, .int .i64 m.li, .int .i64 m.he, .int .i64 m.la.c, .int .i64 m.la.r, .int .i64 m.la.q, .int .i64 m.la.a, .int .i64 m.la.b, .slice v.ws.a v.ws.n v.ws.c]) := Bx.turn HA.out TB (by omega); have HB : Hid (Below w.heap.size w w6) := HB.out.trans (TB.below (by omega)); have HG : Hid (Bx w6 g 107 [.slice uits.a uits.n uits.c, .int .i64 m.id, .int .i64 m.rid, .slice ums.a ums.n ums.c, .slice none 0 0, .slice ulv.a ulv.n ulv.c, .slice v.tx.a v.tx.n v.tx.c, .int .i64 m.rd, .int .i64 m.se, .int .i64 m.li, .int .i64 m.he, .int .i64 m.la.c, .int .i64 m.la.r, .int .i64 m.la.q, .int .i64 m.la.a, .int .i64 m.la.b, .slice v.ws.a v.ws.n v.ws.c]) := OB; clear OB TB) | (refine wpList_ld1 rfl 28 _ rfl w.heap.size 5 rfl 32 _ HA.out (.slice v.tx.a v.tx.n v.tx.c) rfl _ Try.underlying28 rfl ?_))
  refine (copyTexts_s v.tx m.tx _ (h.out.tx.rt.stays HB.out) hs.out.tx hs.out.te).mono ?_
  rintro e w7 ⟨utx, rfl, ho, b⟩
  have Xtx : Hid (OwnS w7 w6.heap.size utx.v m.tx) := ho
  have LOtx : Hid (w6.heap.size ≤ w7.heap.size) := b.size
  have HA : Hid (Bx w7 w.heap.size 32 [.int .i64 m.id, .int .i64 m.rid, .slice v.ms.a v.ms.n v.ms.c, .slice v.its.a v.its.n v.its.c, .slice v.lv.a v.lv.n v.lv.c, .slice v.tx.a v.tx.n v.tx.c, .int .i64 m.rd, .int .i64 m.se, .int .i64 m.li, .int .i64 m.he, .int .i64 m.la.c, .int .i64 m.la.r, .int .i64 m.la.q, .int .i64 m.la.a, .int .i64 m.la.b, .slice v.ws.a v.ws.n v.ws.c]) := Bx.later HA.out b
  have HG : Hid (Bx w7 g 107 [.slice uits.a uits.n uits.c, .int .i64 m.id, .int .i64 m.rid, .slice ums.a ums.n ums.c, .slice none 0 0, .slice ulv.a ulv.n ulv.c, .slice v.tx.a v.tx.n v.tx.c, .int .i64 m.rd, .int .i64 m.se, .int .i64 m.li, .int .i64 m.he, .int .i64 m.la.c, .int .i64 m.la.r, .int .i64 m.la.q, .int .i64 m.la.a, .int .i64 m.la.b, .slice v.ws.a v.ws.n v.ws.c]) := HG.out.later b
  have HB : Hid (Below w.heap.size w w7) := bl_next HB.out b
  have K6 : Hid (KeepBut g w6 w7) := keep_of_below b
  have BXtx : Hid (Bx w7 g 107 [.slice uits.a uits.n uits.c, .int .i64 m.id, .int .i64 m.rid, .slice ums.a ums.n ums.c, .slice none 0 0, .slice ulv.a ulv.n ulv.c, .slice v.tx.a v.tx.n v.tx.c, .int .i64 m.rd, .int .i64 m.se, .int .i64 m.li, .int .i64 m.he, .int .i64 m.la.c, .int .i64 m.la.r, .int .i64 m.la.q, .int .i64 m.la.a, .int .i64 m.la.b, .slice v.ws.a v.ws.n v.ws.c]) := HG.out
  clear ho b
  go_wp2_with (first | (refine wpList_st1 rfl 28 _ _ rfl g 6 rfl 107 _ HG.out (.slice utx.a utx.n utx.c) rfl (by simp) rfl Try.sizeTs [.slice uits.a uits.n uits.c, .int .i64 m.id, .int .i64 m.rid, .slice ums.a ums.n ums.c, .slice none 0 0, .slice ulv.a ulv.n ulv.c, .slice utx.a utx.n utx.c, .int .i64 m.rd, .int .i64 m.se, .int .i64 m.li, .int .i64 m.he, .int .i64 m.la.c, .int .i64 m.la.r, .int .i64 m.la.q, .int .i64 m.la.a, .int .i64 m.la.b, .slice v.ws.a v.ws.n v.ws.c] rfl ?_; intro w8 OB TB; have K7 : Hid (KeepBut g w7 w8) := TB.keep; have HA : Hid (Bx w8 w.heap.size 32 [.int .i64 m.id, .int .i64 m.rid, .slice v.ms.a v.ms.n v.ms.c, .slice v.its.a v.its.n v.its.c, .slice v.lv.a v.lv.n v.lv.c, .slice v.tx.a v.tx.n v.tx.c, .int .i64 m.rd, .int .i64 m.se, .int .i64 m.li, .int .i64 m.he, .int .i64 m.la.c, .int .i64 m.la.r, .int .i64 m.la.q, .int .i64 m.la.a, .int .i64 m.la.b, .slice v.ws.a v.ws.n v.ws.c]) := Bx.turn HA.out TB (by omega); have HB : Hid (Below w.heap.size w w8) := HB.out.trans (TB.below (by omega)); have HG : Hid (Bx w8 g 107 [.slice uits.a uits.n uits.c, .int .i64 m.id, .int .i64 m.rid, .slice ums.a ums.n ums.c, .slice none 0 0, .slice ulv.a ulv.n ulv.c, .slice utx.a utx.n utx.c, .int .i64 m.rd, .int .i64 m.se, .int .i64 m.li, .int .i64 m.he, .int .i64 m.la.c, .int .i64 m.la.r, .int .i64 m.la.q, .int .i64 m.la.a, .int .i64 m.la.b, .slice v.ws.a v.ws.n v.ws.c]) := OB; clear OB TB) | (refine wpList_ldG rfl 30 _ rfl w.heap.size 10 rfl 32 _ HA.out [.int .i64 m.la.c, .int .i64 m.la.r, .int .i64 m.la.q, .int .i64 m.la.a, .int .i64 m.la.b, .slice v.ws.a v.ws.n v.ws.c] rfl _ Try.underlying30 rfl Try.sizeT ?_))
  refine (copyTok_s m.la.c m.la.r m.la.q m.la.a m.la.b v.ws m.la.ws _ (h.out.ws.stays HB.out (fun k hk => (h.out.ws.lt k hk).2)) hs.out.ws).mono ?_
  rintro e w9 ⟨uws, rfl, ho, b⟩
  have Xws : Hid (OwnI w9 w8.heap.size uws.v m.la.ws) := ho
  have LOws : Hid (w8.heap.size ≤ w9.heap.size) := b.size
  have HA : Hid (Bx w9 w.heap.size 32 [.int .i64 m.id, .int .i64 m.rid, .slice v.ms.a v.ms.n v.ms.c, .slice v.its.a v.its.n v.its.c, .slice v.lv.a v.lv.n v.lv.c, .slice v.tx.a v.tx.n v.tx.c, .int .i64 m.rd, .int .i64 m.se, .int .i64 m.li, .int .i64 m.he, .int .i64 m.la.c, .int .i64 m.la.r, .int .i64 m.la.q, .int .i64 m.la.a, .int .i64 m.la.b, .slice v.ws.a v.ws.n v.ws.c]) := Bx.later HA.out b
  have HG : Hid (Bx w9 g 107 [.slice uits.a uits.n uits.c, .int .i64 m.id, .int .i64 m.rid, .slice ums.a ums.n ums.c, .slice none 0 0, .slice ulv.a ulv.n ulv.c, .slice utx.a utx.n utx.c, .int .i64 m.rd, .int .i64 m.se, .int .i64 m.li, .int .i64 m.he, .int .i64 m.la.c, .int .i64 m.la.r, .int .i64 m.la.q, .int .i64 m.la.a, .int .i64 m.la.b, .slice v.ws.a v.ws.n v.ws.c]) := HG.out.later b
  have HB : Hid (Below w.heap.size w w9) := bl_next HB.out b
  have K8 : Hid (KeepBut g w8 w9) := keep_of_below b
  have BXws : Hid (Bx w9 g 107 [.slice uits.a uits.n uits.c, .int .i64 m.id, .int .i64 m.rid, .slice ums.a ums.n ums.c, .slice none 0 0, .slice ulv.a ulv.n ulv.c, .slice utx.a utx.n utx.c, .int .i64 m.rd, .int .i64 m.se, .int .i64 m.li, .int .i64 m.he, .int .i64 m.la.c, .int .i64 m.la.r, .int .i64 m.la.q, .int .i64 m.la.a, .int .i64 m.la.b, .slice v.ws.a v.ws.n v.ws.c]) := HG.out
  clear ho b
  go_wp2_with (first | (refine wpList_stB rfl 30 _ _ rfl g 11 rfl 107 _ HG.out [.int .i64 m.la.c, .int .i64 m.la.r, .int .i64 m.la.q, .int .i64 m.la.a, .int .i64 m.la.b, .slice uws.a uws.n uws.c] rfl (by simp) Try.sizeT rfl [.slice uits.a uits.n uits.c, .int .i64 m.id, .int .i64 m.rid, .slice ums.a ums.n ums.c, .slice none 0 0, .slice ulv.a ulv.n ulv.c, .slice utx.a utx.n utx.c, .int .i64 m.rd, .int .i64 m.se, .int .i64 m.li, .int .i64 m.he, .int .i64 m.la.c, .int .i64 m.la.r, .int .i64 m.la.q, .int .i64 m.la.a, .int .i64 m.la.b, .slice uws.a uws.n uws.c] rfl ?_; intro wz OB TB; have K9 : Hid (KeepBut g w9 wz) := TB.keep; have HA : Hid (Bx wz w.heap.size 32 [.int .i64 m.id, .int .i64 m.rid, .slice v.ms.a v.ms.n v.ms.c, .slice v.its.a v.its.n v.its.c, .slice v.lv.a v.lv.n v.lv.c, .slice v.tx.a v.tx.n v.tx.c, .int .i64 m.rd, .int .i64 m.se, .int .i64 m.li, .int .i64 m.he, .int .i64 m.la.c, .int .i64 m.la.r, .int .i64 m.la.q, .int .i64 m.la.a, .int .i64 m.la.b, .slice v.ws.a v.ws.n v.ws.c]) := Bx.turn HA.out TB (by omega); have HB : Hid (Below w.heap.size w wz) := HB.out.trans (TB.below (by omega)); have HG : Hid (Bx wz g 107 [.slice uits.a uits.n uits.c, .int .i64 m.id, .int .i64 m.rid, .slice ums.a ums.n ums.c, .slice none 0 0, .slice ulv.a ulv.n ulv.c, .slice utx.a utx.n utx.c, .int .i64 m.rd, .int .i64 m.se, .int .i64 m.li, .int .i64 m.he, .int .i64 m.la.c, .int .i64 m.la.r, .int .i64 m.la.q, .int .i64 m.la.a, .int .i64 m.la.b, .slice uws.a uws.n uws.c]) := OB; clear OB TB))
  go_ret
  have Yits := Xits.out.keepb HG0.out ((((((((K1.out.trans K2.out).trans K3.out).trans K4.out).trans K5.out).trans K6.out).trans K7.out).trans K8.out).trans K9.out) (by decide)
  have Yms := Xms.out.keepb BXms.out (((((((K2.out.trans K3.out).trans K4.out).trans K5.out).trans K6.out).trans K7.out).trans K8.out).trans K9.out) (by decide)
  have Ylv := Xlv.out.keepb BXlv.out ((((K5.out.trans K6.out).trans K7.out).trans K8.out).trans K9.out) (by decide)
  have Ytx := Xtx.out.keepb BXtx.out ((K7.out.trans K8.out).trans K9.out) (by decide)
  have Yws := Xws.out.keepb BXws.out K9.out (by decide)
  have gK1 := K1.out.size
  have gK2 := K2.out.size
  have gK3 := K3.out.size
  have gK4 := K4.out.size
  have gK5 := K5.out.size
  have gK6 := K6.out.size
  have gK7 := K7.out.size
  have gK8 := K8.out.size
  have gK9 := K9.out.size
  have e1 := LOms.out
  have e2 := LOlv.out
  have e3 := LOtx.out
  have e4 := LOws.out
  have e5 := zW.out
  have e6 := zW1.out
  refine ⟨g, ⟨ums, uits, ulv, utx, uws⟩, rfl, HG.out, ⟨Yms.down (by omega), Yits.down (by omega), Ylv.down (by omega), Ytx.down (by omega), Yws.down (by omega), ?_, ?_, ?_⟩, by omega, HB.out⟩
  · exact fun k h1 h2 => by have := (Xms.out.lt k h1).2; have := (Xlv.out.lt k h2).1; omega
  · exact fun k h1 h2 => by have := (Xms.out.lt k h1).2; have := (Xws.out.lt k h2).1; omega
  · exact fun k h1 h2 => by have := (Xlv.out.lt k h1).2; have := (Xws.out.lt k h2).1; omega

set_option maxRecDepth 100000 in
set_option maxHeartbeats 2000000 in
theorem mate_any (m : Mt) (u : Mv) (it : Sv) (g : Nat) (w : World) (h : Hid (MbB w g m u it)) :
    Calls Try.prog 49 #[.pointer (some ⟨g, 0, none⟩)] w fun e w' => e = .returned (.agg #[.int .i64 m.id, .int .i64 m.rid, .slice u.ms.a u.ms.n u.ms.c, .slice u.its.a u.its.n u.its.c, .slice u.lv.a u.lv.n u.lv.c, .slice u.tx.a u.tx.n u.tx.c, .int .i64 m.rd, .int .i64 m.se, .int .i64 m.li, .int .i64 m.he, .int .i64 m.la.c, .int .i64 m.la.r, .int .i64 m.la.q, .int .i64 m.la.a, .int .i64 m.la.b, .slice u.ws.a u.ws.n u.ws.c]) ∧ MbB w' g m u u.its ∧ KeepBut g w w' := by
  have HG : Hid (Bx (w.alloc (.cells #[.int .i64 0, .int .i64 0, .slice none 0 0, .slice none 0 0, .slice none 0 0, .slice none 0 0, .int .i64 0, .int .i64 0, .int .i64 0, .int .i64 0, .int .i64 0, .int .i64 0, .int .i64 0, .int .i64 0, .int .i64 0, .slice none 0 0] 32)) g 107 [.slice u.its.a u.its.n u.its.c, .int .i64 m.id, .int .i64 m.rid, .slice u.ms.a u.ms.n u.ms.c, .slice it.a it.n it.c, .slice u.lv.a u.lv.n u.lv.c, .slice u.tx.a u.tx.n u.tx.c, .int .i64 m.rd, .int .i64 m.se, .int .i64 m.li, .int .i64 m.he, .int .i64 m.la.c, .int .i64 m.la.r, .int .i64 m.la.q, .int .i64 m.la.a, .int .i64 m.la.b, .slice u.ws.a u.ws.n u.ws.c]) := h.out.later ((Below.refl _ _).alloc (Nat.le_refl _) _)
  have HR : Hid (Bx (w.alloc (.cells #[.int .i64 0, .int .i64 0, .slice none 0 0, .slice none 0 0, .slice none 0 0, .slice none 0 0, .int .i64 0, .int .i64 0, .int .i64 0, .int .i64 0, .int .i64 0, .int .i64 0, .int .i64 0, .int .i64 0, .int .i64 0, .slice none 0 0] 32)) w.heap.size 32 [.int .i64 0, .int .i64 0, .slice none 0 0, .slice none 0 0, .slice none 0 0, .slice none 0 0, .int .i64 0, .int .i64 0, .int .i64 0, .int .i64 0, .int .i64 0, .int .i64 0, .int .i64 0, .int .i64 0, .int .i64 0, .slice none 0 0]) := Bx.new w 32 _
  have HK : Hid (KeepBut g w (w.alloc (.cells #[.int .i64 0, .int .i64 0, .slice none 0 0, .slice none 0 0, .slice none 0 0, .slice none 0 0, .int .i64 0, .int .i64 0, .int .i64 0, .int .i64 0, .int .i64 0, .int .i64 0, .int .i64 0, .int .i64 0, .int .i64 0, .slice none 0 0] 32))) := keep_of_below ((Below.refl _ _).alloc (Nat.le_refl _) _)
  have zg : g < w.heap.size := Bx.lt h.out
  go_enter Try.func49, Try.ntmps49
  go_wp2_with (first | (refine wpList_ld1 rfl 105 _ rfl g 0 rfl 107 _ HG.out (.slice u.its.a u.its.n u.its.c) rfl _ Try.underlying105 rfl ?_) | (refine wpList_st1 rfl 27 _ _ rfl g 4 rfl 107 _ HG.out (.slice u.its.a u.its.n u.its.c) rfl (by simp) rfl Try.sizeIs [.slice u.its.a u.its.n u.its.c, .int .i64 m.id, .int .i64 m.rid, .slice u.ms.a u.ms.n u.ms.c, .slice u.its.a u.its.n u.its.c, .slice u.lv.a u.lv.n u.lv.c, .slice u.tx.a u.tx.n u.tx.c, .int .i64 m.rd, .int .i64 m.se, .int .i64 m.li, .int .i64 m.he, .int .i64 m.la.c, .int .i64 m.la.r, .int .i64 m.la.q, .int .i64 m.la.a, .int .i64 m.la.b, .slice u.ws.a u.ws.n u.ws.c] rfl ?_; intro w1 OB TB; have HR : Hid (Bx w1 w.heap.size 32 [.int .i64 0, .int .i64 0, .slice none 0 0, .slice none 0 0, .slice none 0 0, .slice none 0 0, .int .i64 0, .int .i64 0, .int .i64 0, .int .i64 0, .int .i64 0, .int .i64 0, .int .i64 0, .int .i64 0, .int .i64 0, .slice none 0 0]) := HR.out.turn TB (by omega); have HK : Hid (KeepBut g w w1) := HK.out.trans TB.keep; have HG1 : Hid (Bx w1 g 107 [.slice u.its.a u.its.n u.its.c, .int .i64 m.id, .int .i64 m.rid, .slice u.ms.a u.ms.n u.ms.c, .slice u.its.a u.its.n u.its.c, .slice u.lv.a u.lv.n u.lv.c, .slice u.tx.a u.tx.n u.tx.c, .int .i64 m.rd, .int .i64 m.se, .int .i64 m.li, .int .i64 m.he, .int .i64 m.la.c, .int .i64 m.la.r, .int .i64 m.la.q, .int .i64 m.la.a, .int .i64 m.la.b, .slice u.ws.a u.ws.n u.ws.c]) := OB; clear OB TB) | (refine wpList_ldG rfl 32 _ rfl g 1 rfl 107 _ HG1.out [.int .i64 m.id, .int .i64 m.rid, .slice u.ms.a u.ms.n u.ms.c, .slice u.its.a u.its.n u.its.c, .slice u.lv.a u.lv.n u.lv.c, .slice u.tx.a u.tx.n u.tx.c, .int .i64 m.rd, .int .i64 m.se, .int .i64 m.li, .int .i64 m.he, .int .i64 m.la.c, .int .i64 m.la.r, .int .i64 m.la.q, .int .i64 m.la.a, .int .i64 m.la.b, .slice u.ws.a u.ws.n u.ws.c] rfl _ Try.underlying32 rfl Try.sizeM ?_) | (refine wpList_stB rfl 32 _ _ rfl w.heap.size 0 rfl 32 _ HR.out [.int .i64 m.id, .int .i64 m.rid, .slice u.ms.a u.ms.n u.ms.c, .slice u.its.a u.its.n u.its.c, .slice u.lv.a u.lv.n u.lv.c, .slice u.tx.a u.tx.n u.tx.c, .int .i64 m.rd, .int .i64 m.se, .int .i64 m.li, .int .i64 m.he, .int .i64 m.la.c, .int .i64 m.la.r, .int .i64 m.la.q, .int .i64 m.la.a, .int .i64 m.la.b, .slice u.ws.a u.ws.n u.ws.c] rfl (by simp) Try.sizeM rfl [.int .i64 m.id, .int .i64 m.rid, .slice u.ms.a u.ms.n u.ms.c, .slice u.its.a u.its.n u.its.c, .slice u.lv.a u.lv.n u.lv.c, .slice u.tx.a u.tx.n u.tx.c, .int .i64 m.rd, .int .i64 m.se, .int .i64 m.li, .int .i64 m.he, .int .i64 m.la.c, .int .i64 m.la.r, .int .i64 m.la.q, .int .i64 m.la.a, .int .i64 m.la.b, .slice u.ws.a u.ws.n u.ws.c] rfl ?_; intro wz RZ TZ))
  refine bodyPost_ret (results_b Try.results49 w.heap.size 32 [.int .i64 m.id, .int .i64 m.rid, .slice u.ms.a u.ms.n u.ms.c, .slice u.its.a u.its.n u.its.c, .slice u.lv.a u.lv.n u.lv.c, .slice u.tx.a u.tx.n u.tx.c, .int .i64 m.rd, .int .i64 m.se, .int .i64 m.li, .int .i64 m.he, .int .i64 m.la.c, .int .i64 m.la.r, .int .i64 m.la.q, .int .i64 m.la.a, .int .i64 m.la.b, .slice u.ws.a u.ws.n u.ws.c] _ rfl RZ Try.underlying32 rfl Try.sizeM) rfl ?_
  refine ⟨rfl, HG1.out.turn TZ (by omega), ?_⟩
  have k1 := HK.out
  exact ⟨TZ.os.trans k1.os, TZ.tape.trans k1.tape, TZ.output.trans k1.output, Nat.le_trans k1.size (Nat.le_of_eq TZ.size.symm), fun k hk hne => (TZ.block k (by omega)).trans (k1.block k hk hne)⟩
end Go.Proofs.Ytpbhcbgohgfkcaa

/- What a member has to say, and whether it is right: small walks. -/
namespace Go.Proofs.Ytpbhcbgohgfkcaa
open Go.RowKit Pl
set_option linter.unusedVariables false
set_option linter.unusedSimpArgs false

/-- whether texts are short. -/
def fitB (ts : List ByteArray) : Bool := ts.all fun t => decide (t.size ≤ 60)
theorem fitB_true {ts : List ByteArray} : fitB ts = true ↔ ∀ t ∈ ts, t.size ≤ 60 := by
  unfold fitB
  simp [List.all_eq_true]
theorem fitB_step {ts : List ByteArray} {k : Nat} (h : ∀ t ∈ ts.take k, t.size ≤ 60) (hk : k < ts.length) (hs : ts[k].size ≤ 60) : ∀ t ∈ ts.take (k + 1), t.size ≤ 60 := by
  intro t ht
  rw [List.take_succ_eq_append_getElem hk] at ht
  rcases List.mem_append.1 ht with h1 | h1
  · exact h t h1
  · simp at h1; subst h1; exact hs
theorem fitB_bad {ts : List ByteArray} {k : Nat} (hk : k < ts.length) (hs : 60 < ts[k].size) : fitB ts = false := by
  cases h : fitB ts with
  | false => rfl
  | true => have := fitB_true.1 h _ (List.getElem_mem hk); omega
theorem fitB_all {ts : List ByteArray} {k : Nat} (h : ∀ t ∈ ts.take k, t.size ≤ 60) (hk : ts.length ≤ k) : fitB ts = true := by
  rw [List.take_of_length_le hk] at h
  exact fitB_true.2 h
/-- whether a number is a level. -/
def lvB (l : Int) : Bool := decide (1 ≤ l ∧ l ≤ 2)
def lvsB (lv : List Int) : Bool := lv.all lvB
/-- whether it may stand there to be said. -/
def sayB (lv : List Int) (tx : List ByteArray) : Bool := decide (tx.length ≤ 20) && (decide (lv.length = tx.length) && (lvsB lv && fitB tx))

set_option maxRecDepth 100000 in
set_option maxHeartbeats 1000000 in
theorem fits_any (ao : Option Addr) (cap : Nat) (ts : List ByteArray) (w : World) (hx : Hid (TextsAt w ao ts)) (hl : ts.length ≤ 1048576) :
    Calls Try.prog 116 #[.slice ao ts.length cap] w fun e w' => e = .returned (.bool (fitB ts)) ∧ w' = w := by
  go_enter Try.func116, Try.ntmps116
  go_wp2
  go_loop [7] (fun i => ∃ k : Nat, k ≤ ts.length ∧ i = .int .i64 k ∧ Hid (∀ t ∈ ts.take k, t.size ≤ 60)) (fun i => ts.length - (intOf i).toNat)
  case atStart => exact ⟨0, Nat.zero_le _, rfl, fun t ht => by simp at ht⟩
  case round =>
    obtain ⟨k, hk, rfl, hst⟩ := hrel
    by_cases hlt : k < ts.length
    · obtain ⟨b, off, rfl, hbb, hc⟩ := hx.out k hlt
      obtain ⟨x, ht⟩ : ∃ x, x = ts[k] := ⟨_, rfl⟩
      rw [← ht] at hc
      have HT : Hid (x = ts[k]) := ht
      clear ht
      by_cases h1 : 60 < x.size
      · have hd : decide (60 < (x.size : Int)) = true := by simp; omega
        go_wp2
        go_ret
        exact ⟨by rw [fitB_bad hlt (by rw [← HT.out]; exact h1)]; rfl, rfl⟩
      · have hd : decide (60 < (x.size : Int)) = false := by simp; omega
        go_wp2
        go_round
        case rel => exact ⟨k + 1, by omega, by go_num, fitB_step hst.out hlt (by rw [← HT.out]; omega)⟩
        case measure => simp [intOf]; omega
    · go_wp2
      go_ret
      exact ⟨by rw [fitB_all hst.out (by omega)]; rfl, rfl⟩

set_option maxRecDepth 100000 in
set_option maxHeartbeats 1000000 in
theorem isLevel_any (l : Int) (w : World) : Calls Try.prog 62 #[.int .i64 l] w fun e w' => e = .returned (.bool (lvB l)) ∧ w' = w := by
  unfold lvB
  by_cases h1 : l = 1
  · subst h1
    go_enter Try.func62, Try.ntmps62
    go_wp2
    go_ret
    exact ⟨rfl, rfl⟩
  · by_cases h2 : l = 2
    · subst h2
      go_enter Try.func62, Try.ntmps62
      go_wp2
      go_ret
      exact ⟨rfl, rfl⟩
    · have h3 : decide (1 ≤ l ∧ l ≤ 2) = false := by simp; omega
      have HD : Hid (decide (1 ≤ l ∧ l ≤ 2) = false) := h3
      have k1 : (l == 1) = false := by simp; exact h1
      have k2 : (l == 2) = false := by simp; exact h2
      clear h3 h1 h2
      go_enter Try.func62, Try.ntmps62
      go_wp2
      go_ret
      exact ⟨by rw [HD.out]; rfl, rfl⟩

theorem filt_next {lv : List Int} {k : Nat} (hk : k < lv.length) : (lv.take (k + 1)).filter lvB = (lv.take k).filter lvB ++ if lvB lv[k] = true then [lv[k]] else [] := by
  rw [List.take_succ_eq_append_getElem hk, List.filter_append]
  congr 1
  by_cases h : lvB lv[k] = true <;> simp [h]

set_option maxRecDepth 100000 in
set_option maxHeartbeats 1000000 in
theorem keptI_any (ao : Option Addr) (cap : Nat) (lv : List Int) (w : World) (hx : Hid (IntsAt w ao lv)) (hl : lv.length ≤ 1048576) :
    Calls Try.prog 115 #[.slice ao lv.length cap, .func (Fn.func 62) #[] #[]] w fun e w' => ∃ v, e = .returned v ∧ OwnI w' w.heap.size v (lv.filter lvB) ∧ Below w.heap.size w w' := by
  have S0 : Hid (OwnI (w.alloc (.cells #[] 3)) w.heap.size (.slice (some ⟨w.heap.size, 0, none⟩) 0 0) []) := OwnI.made w w.heap.size (Nat.le_refl _)
  have B0 : Hid (Below w.heap.size w (w.alloc (.cells #[] 3))) := (Below.refl _ _).alloc (Nat.le_refl _) _
  go_enter Try.func115, Try.ntmps115
  go_wp2
  go_loopw [5, 11] (fun v i wr => ∃ (k : Nat), k ≤ lv.length ∧ i = .int .i64 k ∧ Hid (OwnI wr w.heap.size v ((lv.take k).filter lvB)) ∧ Hid (Below w.heap.size w wr)) (fun _ i _ => lv.length - (intOf i).toNat)
  case atStart => exact ⟨0, Nat.zero_le _, rfl, S0, B0⟩
  case round =>
    clear S0 B0
    obtain ⟨k, hk, rfl, hS, hb⟩ := hrel
    by_cases hlt : k < lv.length
    · obtain ⟨bb, off, rfl, hbb, h0⟩ := hx.out.stays hb.out k hlt
      have hst := filt_next hlt
      have HP : Hid (∃ x : Int, x = lv[k]) := ⟨_, rfl⟩
      obtain ⟨x, hp⟩ := HP.out
      rw [← hp] at h0 hst
      have HST : Hid _ := hst
      clear hp HP hst
      have S1 := hS.out
      have B1 := hb.out
      have z1 : w.heap.size ≤ wr.heap.size := B1.size
      have hlk : ((lv.take k).filter lvB).length ≤ 1048576 := Nat.le_trans (List.length_filter_le _ _) (by rw [List.length_take]; omega)
      go_wp2_with fail
      refine (isLevel_any x _).mono ?_
      rintro e w1 ⟨rfl, rfl⟩
      obtain ⟨R, hR⟩ : ∃ R, lvB x = R := ⟨_, rfl⟩
      rw [hR]
      have HR : Hid (lvB x = R) := hR
      have S1 : Hid _ := S1
      have B1 : Hid _ := B1
      clear hR hS hb h0
      cases R with
      | true =>
        have HLS : Hid ((lv.take (k + 1)).filter lvB = (lv.take k).filter lvB ++ [x]) := by
          have := HST.out
          rwa [if_pos HR.out] at this
        clear HST
        go_wp2_with (at_builtin; refine wpList_pushI rfl _ _ 24 rfl Try.underlying24 Try.info3' w.heap.size u5 _ rfl S1.out x rfl (by omega) z1 ?_; intro v2 w2 o2 b2)
        have S2 : Hid (OwnI w2 w.heap.size v2 ((lv.take (k + 1)).filter lvB)) := by
          rw [HLS.out]
          exact o2
        have B2 : Hid (Below w.heap.size w w2) := B1.out.trans b2
        go_roundw
        case rel => exact ⟨k + 1, by omega, by go_num, S2, B2⟩
        case measure => simp [intOf]; omega
      | false =>
        have HLS : Hid ((lv.take (k + 1)).filter lvB = (lv.take k).filter lvB) := by
          have := HST.out
          rwa [if_neg (by rw [HR.out]; simp), List.append_nil] at this
        clear HST
        have S2 := S1.out
        rw [← HLS.out] at S2
        have S3 : Hid _ := S2
        clear S2
        go_wp2_with fail
        go_roundw
        case rel => exact ⟨k + 1, by omega, by go_num, S3.out, B1⟩
        case measure => simp [intOf]; omega
    · obtain rfl : k = lv.length := by omega
      go_wp2_with fail
      go_ret
      exact ⟨_, rfl, by have := hS.out; rw [List.take_length] at this; exact this, hb.out⟩

theorem filt_all {lv : List Int} : (lv.filter lvB).length = lv.length ↔ lvsB lv = true := by
  unfold lvsB
  rw [List.length_filter_eq_length_iff, List.all_eq_true]

set_option maxRecDepth 100000 in
set_option maxHeartbeats 1000000 in
theorem toSay_any (s u : Sv) (lv : List Int) (tx : List ByteArray) (w : World) (hx : Hid (RI w s.v lv)) (hy : Hid (RT w u.v tx)) (hl : lv.length ≤ 1048576) (ht : tx.length ≤ 1048576) :
    Calls Try.prog 55 #[.slice s.a s.n s.c, .slice u.a u.n u.c] w fun e w' => e = .returned (.bool (sayB lv tx)) ∧ Below w.heap.size w w' := by
  obtain ⟨ao, cap, e1, h1⟩ := hx.out
  obtain ⟨at_, ct, e2, h2⟩ := hy.out
  unfold Sv.v at e1 e2
  rw [e1, e2]
  clear e1 e2 hx hy
  have X1 : Hid (IntsAt w ao lv) := h1
  have Y1 : Hid (TextsAt w at_ tx) := h2
  clear h1 h2
  unfold sayB
  by_cases c1 : tx.length ≤ 20
  · rw [decide_eq_true c1]
    have d1 : (tx.length : Int) ≤ 20 := by omega
    by_cases c2 : lv.length = tx.length
    · rw [decide_eq_true c2]
      have C2 : Hid (lv.length = tx.length) := c2
      have d2 : ((lv.length : Int) == (tx.length : Int)) = true := by simp; omega
      clear c2
      go_enter Try.func55, Try.ntmps55
      go_wp2_with fail
      refine (keptI_any ao cap lv w X1 hl).mono ?_
      rintro e w1 ⟨v1, rfl, o1, b1⟩
      obtain ⟨ao1, cap1, hf⟩ := o1.form
      subst hf
      have Y2 : Hid (TextsAt w1 at_ tx) := Y1.out.stays b1
      have B1 : Hid (Below w.heap.size w w1) := b1
      clear o1 b1
      by_cases c3 : (lv.filter lvB).length = lv.length
      · have E3 : Hid (lvsB lv = true) := filt_all.1 c3
        have d3 : (((lv.filter lvB).length : Int) == (lv.length : Int)) = true := by simp; omega
        clear c3
        go_wp2_with fail
        refine (fits_any at_ ct tx w1 Y2 ht).mono ?_
        rintro e w2 ⟨rfl, rfl⟩
        go_wp2_with fail
        go_ret
        exact ⟨by rw [E3.out]; rfl, B1.out⟩
      · have E3 : Hid (lvsB lv = false) := by
          cases h : lvsB lv with
          | false => rfl
          | true => exact absurd (filt_all.2 h) c3
        have d3 : (((lv.filter lvB).length : Int) == (lv.length : Int)) = false := by simp; omega
        clear c3
        go_wp2_with fail
        go_ret
        exact ⟨by rw [E3.out]; rfl, B1.out⟩
    · rw [decide_eq_false c2]
      have d2 : ((lv.length : Int) == (tx.length : Int)) = false := by simp; omega
      clear c2
      go_enter Try.func55, Try.ntmps55
      go_wp2_with fail
      go_ret
      exact ⟨rfl, Below.refl _ _⟩
  · rw [decide_eq_false c1]
    have d1 : ¬ (tx.length : Int) ≤ 20 := by omega
    go_enter Try.func55, Try.ntmps55
    go_wp2_with fail
    go_ret
    exact ⟨rfl, Below.refl _ _⟩
end Go.Proofs.Ytpbhcbgohgfkcaa

/- Tokens of which all is zero; what a member has to say, by the specification. Written by gen_mp.py. -/
namespace Go.Proofs.Ytpbhcbgohgfkcaa
open Go.RowKit Pl
set_option linter.unusedVariables false
set_option linter.unusedSimpArgs false

/-- whether all of a token is zero. -/
def ntB (c r q a b : Int) (ws : List Int) : Bool := (c == 0) && ((r == 0) && ((q == 0) && ((a == 0) && ((b == 0) && ((ws.length : Int) == 0)))))

set_option maxRecDepth 100000 in
set_option maxHeartbeats 2000000 in
theorem noToken_any (c r q a b : Int) (s : Sv) (ws : List Int) (w : World) (hn : Hid (s.n = ws.length)) :
    Calls Try.prog 57 #[.agg #[.int .i64 c, .int .i64 r, .int .i64 q, .int .i64 a, .int .i64 b, .slice s.a s.n s.c]] w fun e w' => e = .returned (.bool (ntB c r q a b ws)) ∧ Below w.heap.size w w' := by
  unfold ntB
  rw [← hn.out]
  clear hn
  have HL : Hid (Below w.heap.size w (w.alloc (.cells #[.int .i64 c, .int .i64 r, .int .i64 q, .int .i64 a, .int .i64 b, .slice s.a s.n s.c] 30))) := (Below.refl _ _).alloc (Nat.le_refl _) _
  obtain ⟨R0, k0⟩ : ∃ R, (c == 0) = R := ⟨_, rfl⟩
  rw [k0]
  cases R0 with
  | false =>
    go_enter Try.func57, Try.ntmps57
    go_wp2_with fail
    go_ret
    exact ⟨rfl, HL.out⟩
  | true =>
    obtain ⟨R1, k1⟩ : ∃ R, (r == 0) = R := ⟨_, rfl⟩
    rw [k1]
    cases R1 with
    | false =>
      go_enter Try.func57, Try.ntmps57
      go_wp2_with fail
      go_ret
      exact ⟨rfl, HL.out⟩
    | true =>
      obtain ⟨R2, k2⟩ : ∃ R, (q == 0) = R := ⟨_, rfl⟩
      rw [k2]
      cases R2 with
      | false =>
        go_enter Try.func57, Try.ntmps57
        go_wp2_with fail
        go_ret
        exact ⟨rfl, HL.out⟩
      | true =>
        obtain ⟨R3, k3⟩ : ∃ R, (a == 0) = R := ⟨_, rfl⟩
        rw [k3]
        cases R3 with
        | false =>
          go_enter Try.func57, Try.ntmps57
          go_wp2_with fail
          go_ret
          exact ⟨rfl, HL.out⟩
        | true =>
          obtain ⟨R4, k4⟩ : ∃ R, (b == 0) = R := ⟨_, rfl⟩
          rw [k4]
          cases R4 with
          | false =>
            go_enter Try.func57, Try.ntmps57
            go_wp2_with fail
            go_ret
            exact ⟨rfl, HL.out⟩
          | true =>
            obtain ⟨R5, k5⟩ : ∃ R, ((s.n : Int) == 0) = R := ⟨_, rfl⟩
            rw [k5]
            cases R5 with
            | false =>
              go_enter Try.func57, Try.ntmps57
              go_wp2_with fail
              go_ret
              exact ⟨rfl, HL.out⟩
            | true =>
              go_enter Try.func57, Try.ntmps57
              go_wp2_with fail
              go_ret
              exact ⟨rfl, HL.out⟩

set_option maxRecDepth 100000 in
set_option maxHeartbeats 1000000 in
theorem sameInts_nil (s : Sv) (w : World) : Calls Try.prog 153 #[.slice s.a s.n s.c, .slice none 0 0] w fun e w' => e = .returned (.bool ((s.n : Int) == 0)) ∧ w' = w := by
  obtain ⟨sa, sn, sc⟩ := s
  by_cases h : sn = 0
  · subst h
    go_enter Try.func153, Try.ntmps153
    go_wp2
    refine wp_loop_rounds 1 ?_
    rw [rounds_succ]
    go_wp2
    go_ret
    exact ⟨rfl, rfl⟩
  · have k : ((sn : Int) == 0) = false := by simp; omega
    have K : Hid (((sn : Int) == 0) = false) := k
    have k2 : ((sn : Int) != 0) = true := by simp; omega
    clear h k
    go_enter Try.func153, Try.ntmps153
    go_wp2
    go_ret
    exact ⟨by rw [K.out]; rfl, rfl⟩

set_option maxRecDepth 100000 in
set_option maxHeartbeats 2000000 in
theorem sameZero_any (c r q a b : Int) (s : Sv) (w : World) :
    Calls Try.prog 136 #[.agg #[.int .i64 c, .int .i64 r, .int .i64 q, .int .i64 a, .int .i64 b, .slice s.a s.n s.c], .agg #[.int .i64 0, .int .i64 0, .int .i64 0, .int .i64 0, .int .i64 0, .slice none 0 0]] w fun e w' => e = .returned (.bool ((c == 0) && ((r == 0) && ((q == 0) && ((a == 0) && ((b == 0) && ((s.n : Int) == 0))))))) ∧ Below w.heap.size w w' := by
  have HL : Hid (Below w.heap.size w ((w.alloc (.cells #[.int .i64 c, .int .i64 r, .int .i64 q, .int .i64 a, .int .i64 b, .slice s.a s.n s.c] 30)).alloc (.cells #[.int .i64 0, .int .i64 0, .int .i64 0, .int .i64 0, .int .i64 0, .slice none 0 0] 30))) := ((Below.refl _ _).alloc (Nat.le_refl _) _).alloc (by simp) _
  obtain ⟨R0, k0⟩ : ∃ R, (c == 0) = R := ⟨_, rfl⟩
  rw [k0]
  cases R0 with
  | false =>
    go_enter Try.func136, Try.ntmps136
    go_wp2_with fail
    go_ret
    exact ⟨rfl, HL.out⟩
  | true =>
    obtain ⟨R1, k1⟩ : ∃ R, (r == 0) = R := ⟨_, rfl⟩
    rw [k1]
    cases R1 with
    | false =>
      go_enter Try.func136, Try.ntmps136
      go_wp2_with fail
      go_ret
      exact ⟨rfl, HL.out⟩
    | true =>
      obtain ⟨R2, k2⟩ : ∃ R, (q == 0) = R := ⟨_, rfl⟩
      rw [k2]
      cases R2 with
      | false =>
        go_enter Try.func136, Try.ntmps136
        go_wp2_with fail
        go_ret
        exact ⟨rfl, HL.out⟩
      | true =>
        obtain ⟨R3, k3⟩ : ∃ R, (a == 0) = R := ⟨_, rfl⟩
        rw [k3]
        cases R3 with
        | false =>
          go_enter Try.func136, Try.ntmps136
          go_wp2_with fail
          go_ret
          exact ⟨rfl, HL.out⟩
        | true =>
          obtain ⟨R4, k4⟩ : ∃ R, (b == 0) = R := ⟨_, rfl⟩
          rw [k4]
          cases R4 with
          | false =>
            go_enter Try.func136, Try.ntmps136
            go_wp2_with fail
            go_ret
            exact ⟨rfl, HL.out⟩
          | true =>
            go_enter Try.func136, Try.ntmps136
            go_wp2_with fail
            refine (sameInts_nil s _).mono ?_
            rintro e w1 ⟨rfl, rfl⟩
            go_wp2_with fail
            go_ret
            exact ⟨rfl, HL.out⟩

set_option maxRecDepth 100000 in
set_option maxHeartbeats 1000000 in
theorem blank_any (c r q a b : Int) (s : Sv) (ws : List Int) (w : World) (hn : Hid (s.n = ws.length)) :
    Calls Try.prog 99 #[.agg #[.int .i64 c, .int .i64 r, .int .i64 q, .int .i64 a, .int .i64 b, .slice s.a s.n s.c]] w fun e w' => e = .returned (.bool (ntB c r q a b ws)) ∧ Below w.heap.size w w' := by
  unfold ntB
  rw [← hn.out]
  clear hn
  go_enter Try.func99, Try.ntmps99
  go_wp2_with fail
  refine (sameZero_any c r q a b s _).mono ?_
  rintro e w1 ⟨rfl, b1⟩
  go_wp2_with fail
  go_ret
  exact ⟨rfl, ((Below.refl _ _).alloc (Nat.le_refl _) _).trans (b1.mono (by simp))⟩

/-- the first k of them may be said. -/
def SaySt (lv : List Int) (tx : List ByteArray) (k : Nat) : Prop := (∀ t ∈ tx.take k, t.size ≤ 60) ∧ ∀ l ∈ lv.take k, lvB l = true
theorem say_step {lv : List Int} {tx : List ByteArray} {k : Nat} (h : SaySt lv tx k) (h1 : k < lv.length) (h2 : k < tx.length) (hl : lvB lv[k] = true) (ht : tx[k].size ≤ 60) : SaySt lv tx (k + 1) := by
  refine ⟨fitB_step h.1 h2 ht, fun l hm => ?_⟩
  rw [List.take_succ_eq_append_getElem h1] at hm
  rcases List.mem_append.1 hm with h3 | h3
  · exact h.2 l h3
  · simp at h3; subst h3; exact hl
theorem say_bad1 {lv : List Int} {tx : List ByteArray} {k : Nat} (h1 : k < lv.length) (hl : lvB lv[k] = false) : sayB lv tx = false := by
  have : lvsB lv = false := by
    cases h : lvsB lv with
    | false => rfl
    | true => unfold lvsB at h; have := List.all_eq_true.1 h _ (List.getElem_mem h1); rw [hl] at this; cases this
  unfold sayB; rw [this]; simp
theorem say_bad2 {lv : List Int} {tx : List ByteArray} {k : Nat} (h1 : k < tx.length) (hl : 60 < tx[k].size) : sayB lv tx = false := by
  unfold sayB; rw [fitB_bad h1 hl]; simp
theorem say_end {lv : List Int} {tx : List ByteArray} {k : Nat} (h : SaySt lv tx k) (hk : ¬ (k < tx.length ∧ k < lv.length)) : sayB lv tx = (decide (tx.length ≤ 20) && decide (lv.length = tx.length)) := by
  unfold sayB
  by_cases he : lv.length = tx.length
  · have h1 := fitB_all (k := k) h.1 (by omega)
    have h2 : lvsB lv = true := by
      unfold lvsB
      have := h.2
      rw [List.take_of_length_le (by omega)] at this
      exact List.all_eq_true.2 this
    rw [h1, h2]; simp
  · simp [he]

set_option maxRecDepth 100000 in
set_option maxHeartbeats 2000000 in
theorem tenTexts_any (s u : Sv) (lv : List Int) (tx : List ByteArray) (w : World) (hx : Hid (RI w s.v lv)) (hy : Hid (RT w u.v tx)) (hl : lv.length ≤ 1048576) (ht : tx.length ≤ 1048576) :
    Calls Try.prog 98 #[.slice s.a s.n s.c, .slice u.a u.n u.c] w fun e w' => e = .returned (.bool (sayB lv tx)) ∧ w' = w := by
  obtain ⟨ao, cap, e1, h1⟩ := hx.out
  obtain ⟨at_, ct, e2, h2⟩ := hy.out
  unfold Sv.v at e1 e2
  rw [e1, e2]
  clear e1 e2 hx hy
  have X1 : Hid (IntsAt w ao lv) := h1
  have Y1 : Hid (TextsAt w at_ tx) := h2
  clear h1 h2
  go_enter Try.func98, Try.ntmps98
  go_wp2
  go_loop [5] (fun i => ∃ k : Nat, k ≤ tx.length ∧ i = .int .i64 k ∧ Hid (SaySt lv tx k)) (fun i => tx.length - (intOf i).toNat)
  case atStart => exact ⟨0, Nat.zero_le _, rfl, ⟨fun t h => by simp at h, fun t h => by simp at h⟩⟩
  case round =>
    obtain ⟨k, hk, rfl, hst⟩ := hrel
    by_cases hlt : k < tx.length
    · have i1 : (k : Int) < (tx.length : Int) := by omega
      by_cases hlv : k < lv.length
      · have i2 : (k : Int) < (lv.length : Int) := by omega
        obtain ⟨b, off, rfl, hbb, hc⟩ := Y1.out k hlt
        obtain ⟨b', off', rfl, hbb', hc'⟩ := X1.out k hlv
        obtain ⟨x, hx⟩ : ∃ x, x = tx[k] := ⟨_, rfl⟩
        obtain ⟨l, hll⟩ : ∃ l, l = lv[k] := ⟨_, rfl⟩
        rw [← hx] at hc
        rw [← hll] at hc'
        have HX : Hid (x = tx[k]) := hx
        have HV : Hid (l = lv[k]) := hll
        clear hx hll
        go_wp2_with fail
        refine (in_any l 1 2 w).mono ?_
        rintro e w1 ⟨rfl, rfl⟩
        obtain ⟨R, hR⟩ : ∃ R, decide (1 ≤ l ∧ l ≤ 2) = R := ⟨_, rfl⟩
        rw [hR]
        have HR : Hid (lvB l = R) := hR
        clear hR
        cases R with
        | false =>
          go_wp2_with fail
          go_ret
          exact ⟨by rw [say_bad1 hlv (by rw [← HV.out]; exact HR.out)]; rfl, rfl⟩
        | true =>
          by_cases h60 : 60 < x.size
          · have hd : decide (60 < (x.size : Int)) = true := by simp; omega
            go_wp2_with fail
            go_ret
            exact ⟨by rw [say_bad2 hlt (by rw [← HX.out]; exact h60)]; rfl, rfl⟩
          · have hd : decide (60 < (x.size : Int)) = false := by simp; omega
            go_wp2_with fail
            go_round
            case rel => exact ⟨k + 1, by omega, by go_num, say_step hst.out hlv hlt (by rw [← HV.out]; exact HR.out) (by rw [← HX.out]; omega)⟩
            case measure => simp [intOf]; omega
      · have i2 : ¬ (k : Int) < (lv.length : Int) := by omega
        have HE : Hid (sayB lv tx = (decide (tx.length ≤ 20) && decide (lv.length = tx.length))) := say_end hst.out (by omega)
        have c2 : ((lv.length : Int) == (tx.length : Int)) = false := by simp; omega
        have C2 : Hid (decide (lv.length = tx.length) = false) := (by simp; omega : decide (lv.length = tx.length) = false)
        by_cases c1 : tx.length ≤ 20
        · have d1 : (tx.length : Int) ≤ 20 := by omega
          go_wp2_with fail
          go_ret
          exact ⟨by rw [HE.out, C2.out]; simp, rfl⟩
        · have d1 : ¬ (tx.length : Int) ≤ 20 := by omega
          go_wp2_with fail
          go_ret
          exact ⟨by rw [HE.out, C2.out]; simp, rfl⟩
    · have i1 : ¬ (k : Int) < (tx.length : Int) := by omega
      have HE : Hid (sayB lv tx = (decide (tx.length ≤ 20) && decide (lv.length = tx.length))) := say_end hst.out (by omega)
      by_cases c1 : tx.length ≤ 20
      · have d1 : (tx.length : Int) ≤ 20 := by omega
        have D1 : Hid (decide (tx.length ≤ 20) = true) := (by simp; omega : decide (tx.length ≤ 20) = true)
        by_cases c2 : lv.length = tx.length
        · have k2 : ((lv.length : Int) == (tx.length : Int)) = true := by simp; omega
          have C2 : Hid (decide (lv.length = tx.length) = true) := (by simp; omega : decide (lv.length = tx.length) = true)
          clear c2
          go_wp2_with fail
          go_ret
          exact ⟨by rw [HE.out, C2.out, D1.out]; rfl, rfl⟩
        · have k2 : ((lv.length : Int) == (tx.length : Int)) = false := by simp; omega
          have C2 : Hid (decide (lv.length = tx.length) = false) := (by simp; omega : decide (lv.length = tx.length) = false)
          clear c2
          go_wp2_with fail
          go_ret
          exact ⟨by rw [HE.out, C2.out]; simp, rfl⟩
      · have d1 : ¬ (tx.length : Int) ≤ 20 := by omega
        have D1 : Hid (decide (tx.length ≤ 20) = false) := (by simp; omega : decide (tx.length ≤ 20) = false)
        go_wp2_with fail
        go_ret
        exact ⟨by rw [HE.out, D1.out]; rfl, rfl⟩
end Go.Proofs.Ytpbhcbgohgfkcaa

