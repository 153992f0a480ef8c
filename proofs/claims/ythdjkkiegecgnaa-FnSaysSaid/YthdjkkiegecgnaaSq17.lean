/- Joined texts: CSp1 CHf CHf2. -/
import Derived.Test.YthdjkkiegecgnaaSq15
import Derived.Test.YthdjkkiegecgnaaSq16
import Derived.Test.YthdjkkiegecgnaaSq11
import Derived.Deep.DeepCutAuto
import Derived.Test.YthdjkkiegecgnaaSq13
/- A member speaks: what it says gets numbers, and is its own. Written by gen_sp.py. -/
namespace Go.Proofs.Ythdjkkiegecgnaa
open Go.RowKit Pl
set_option linter.unusedVariables false
set_option linter.unusedSimpArgs false


def goneN (m : Mt) : Nat := min 3 m.tx.length
def freshL (m : Mt) (t : Tok) : List It := numL t.c t.r t.q t.a t.b t.ws m.id m.lv m.tx
def Mt.spoke (m : Mt) (t : Tok) : Mt := ⟨m.id, m.rid, m.ms, putAll m.its (freshL m t), m.lv.drop (goneN m), m.tx.drop (goneN m), m.rd, m.se, m.li, m.he, m.la⟩
/-- a member's lists are its own, two of them cut. -/
structure MtC (w : World) (B : Nat) (m : Mt) (v : Mv) : Prop where
  ms : OwnI w B v.ms.v m.ms
  its : SlI w B v.its.v m.its
  lv : SlJ w B v.lv.v m.lv
  tx : SlX w B v.tx.v m.tx
  ws : OwnI w B v.ws.v m.la.ws
theorem numberT_s (t : Tok) (f : Int) (s l x : Sv) (lv : List Int) (tx : List ByteArray) (w : World) (h : Hid (OwnI w 0 s.v t.ws)) (hl : t.ws.length ≤ 1048576) (hlv : Hid (RI w l.v lv)) (hll : lv.length ≤ 1048576) (htx : Hid (RT w x.v tx)) (hlt : tx.length ≤ 1048576) :
    Calls Try.prog 130 #[.agg #[.int .i64 t.c, .int .i64 t.r, .int .i64 t.q, .int .i64 t.a, .int .i64 t.b, .slice s.a s.n s.c], .int .i64 f, .slice l.a l.n l.c, .slice x.a x.n x.c] w fun e w' => ∃ sw fs : Sv, e = .returned (.tuple #[.agg #[.int .i64 t.c, .int .i64 t.r, .int .i64 (numQ t.c t.r t.q t.a t.b t.ws f lv tx), .int .i64 (numA t.c t.r t.q t.a t.b t.ws f lv tx), .int .i64 t.b, .slice sw.a sw.n sw.c], .slice fs.a fs.n fs.c]) ∧ OwnI w' w.heap.size sw.v t.ws ∧ SlI w' w.heap.size fs.v (numL t.c t.r t.q t.a t.b t.ws f lv tx) ∧ Below w.heap.size w w' := by
  obtain ⟨al, cl, e1, x1⟩ := hlv.out
  obtain ⟨at_, ct, e2, x2⟩ := htx.out
  have hq := numberT_any t.c t.r t.q t.a t.b f s.v t.ws 0 al cl lv at_ ct tx w h hl x1 hll x2 hlt
  rw [← e1, ← e2] at hq
  refine hq.mono ?_
  rintro e w' ⟨v, vi, rfl, o1, o2, b⟩
  obtain ⟨sw, rfl⟩ := o1.sv
  obtain ⟨fs, rfl⟩ := o2.sv
  exact ⟨sw, fs, rfl, o1, o2, b⟩

set_option maxRecDepth 100000 in
set_option maxHeartbeats 8000000 in
theorem speak_any (m : Mt) (u : Mv) (it : Sv) (g B : Nat) (t : Tok) (s : Sv) (w : World) (h : Hid (MbB w g m u it)) (ho : Hid (MtO w B m u)) (hs : Hid (OwnI w 0 s.v t.ws)) (hl : t.ws.length ≤ 1048576) (hsz : Hid (MtS m)) (hA : Hid (Asc m.its)) (hB : B ≤ g) (hil : m.its.length ≤ 1000000) (hll : Hid (m.lv.length = m.tx.length)) (hts : Hid (∀ x ∈ freshL m t, x.2.2.2.size ≤ 1048576)) :
    Calls Try.prog 71 #[.pointer (some ⟨g, 0, none⟩), .agg #[.int .i64 t.c, .int .i64 t.r, .int .i64 t.q, .int .i64 t.a, .int .i64 t.b, .slice s.a s.n s.c]] w fun e w' => ∃ (sw fs n lv tx : Sv), e = .returned (.tuple #[.agg #[.int .i64 t.c, .int .i64 t.r, .int .i64 (numQ t.c t.r t.q t.a t.b t.ws m.id m.lv m.tx), .int .i64 (numA t.c t.r t.q t.a t.b t.ws m.id m.lv m.tx), .int .i64 t.b, .slice sw.a sw.n sw.c], .slice fs.a fs.n fs.c]) ∧ MbB w' g (m.spoke t) ⟨u.ms, n, lv, tx, u.ws⟩ it ∧ MtC w' B (m.spoke t) ⟨u.ms, n, lv, tx, u.ws⟩ ∧ OwnI w' w.heap.size sw.v t.ws ∧ SlI w' w.heap.size fs.v (freshL m t) ∧ Below B w w' ∧ (∀ k, k < w.heap.size → k ≠ g → u.its.v.ownBlock ≠ some k → w'.heap[k]? = w.heap[k]?) ∧ (n.v.ownBlock = u.its.v.ownBlock ∨ ∃ nb, n.v.ownBlock = some nb ∧ w.heap.size ≤ nb) := by
  have hn1 : (w.alloc (.cells #[.int .i64 t.c, .int .i64 t.r, .int .i64 t.q, .int .i64 t.a, .int .i64 t.b, .slice s.a s.n s.c] 30)).heap.size = w.heap.size + 1 := by simp
  have zg : g < w.heap.size := Bx.lt h.out
  have HT : Hid (Bx ((w.alloc (.cells #[.int .i64 t.c, .int .i64 t.r, .int .i64 t.q, .int .i64 t.a, .int .i64 t.b, .slice s.a s.n s.c] 30)).alloc (.cells #[.int .i64 0, .int .i64 0, .int .i64 0, .int .i64 0, .int .i64 0, .slice none 0 0] 30)) w.heap.size 30 [.int .i64 t.c, .int .i64 t.r, .int .i64 t.q, .int .i64 t.a, .int .i64 t.b, .slice s.a s.n s.c]) := by
    have h := Bx.new w 30 [.int .i64 t.c, .int .i64 t.r, .int .i64 t.q, .int .i64 t.a, .int .i64 t.b, .slice s.a s.n s.c]
    exact h.stays (B := w.heap.size + 1) ((Below.refl _ _).alloc (by rw [hn1]; exact Nat.le_refl _) _) (by omega)
  have HR : Hid (Bx ((w.alloc (.cells #[.int .i64 t.c, .int .i64 t.r, .int .i64 t.q, .int .i64 t.a, .int .i64 t.b, .slice s.a s.n s.c] 30)).alloc (.cells #[.int .i64 0, .int .i64 0, .int .i64 0, .int .i64 0, .int .i64 0, .slice none 0 0] 30)) (w.heap.size + 1) 30 [.int .i64 0, .int .i64 0, .int .i64 0, .int .i64 0, .int .i64 0, .slice none 0 0]) := by
    have h := Bx.new (w.alloc (.cells #[.int .i64 t.c, .int .i64 t.r, .int .i64 t.q, .int .i64 t.a, .int .i64 t.b, .slice s.a s.n s.c] 30)) 30 [.int .i64 0, .int .i64 0, .int .i64 0, .int .i64 0, .int .i64 0, .slice none 0 0]
    rw [hn1] at h
    exact h
  have HB : Hid (Below w.heap.size w ((w.alloc (.cells #[.int .i64 t.c, .int .i64 t.r, .int .i64 t.q, .int .i64 t.a, .int .i64 t.b, .slice s.a s.n s.c] 30)).alloc (.cells #[.int .i64 0, .int .i64 0, .int .i64 0, .int .i64 0, .int .i64 0, .slice none 0 0] 30))) := ((Below.refl _ _).alloc (Nat.le_refl _) _).alloc (by simp) _
  have HG : Hid (Bx ((w.alloc (.cells #[.int .i64 t.c, .int .i64 t.r, .int .i64 t.q, .int .i64 t.a, .int .i64 t.b, .slice s.a s.n s.c] 30)).alloc (.cells #[.int .i64 0, .int .i64 0, .int .i64 0, .int .i64 0, .int .i64 0, .slice none 0 0] 30)) g 115 [.slice u.its.a u.its.n u.its.c, .int .i64 m.id, .int .i64 m.rid, .slice u.ms.a u.ms.n u.ms.c, .slice it.a it.n it.c, .slice u.lv.a u.lv.n u.lv.c, .slice u.tx.a u.tx.n u.tx.c, .int .i64 m.rd, .int .i64 m.se, .int .i64 m.li, .int .i64 m.he, .int .i64 m.la.c, .int .i64 m.la.r, .int .i64 m.la.q, .int .i64 m.la.a, .int .i64 m.la.b, .slice u.ws.a u.ws.n u.ws.c]) := Bx.later h.out HB.out
  have HO : Hid (MtO ((w.alloc (.cells #[.int .i64 t.c, .int .i64 t.r, .int .i64 t.q, .int .i64 t.a, .int .i64 t.b, .slice s.a s.n s.c] 30)).alloc (.cells #[.int .i64 0, .int .i64 0, .int .i64 0, .int .i64 0, .int .i64 0, .slice none 0 0] 30)) B m u) := ho.out.later HB.out
  have HS : Hid (OwnI ((w.alloc (.cells #[.int .i64 t.c, .int .i64 t.r, .int .i64 t.q, .int .i64 t.a, .int .i64 t.b, .slice s.a s.n s.c] 30)).alloc (.cells #[.int .i64 0, .int .i64 0, .int .i64 0, .int .i64 0, .int .i64 0, .slice none 0 0] 30)) 0 s.v t.ws) := hs.out.keep fun k _ hk => HB.out.block k hk
  have hBw : B ≤ w.heap.size := by omega
  clear h ho hs hn1
  obtain ⟨Q2, hQ2⟩ : ∃ Q2, Q2 = numQ t.c t.r t.q t.a t.b t.ws m.id m.lv m.tx := ⟨_, rfl⟩
  obtain ⟨A3, hA3⟩ : ∃ A3, A3 = numA t.c t.r t.q t.a t.b t.ws m.id m.lv m.tx := ⟨_, rfl⟩
  obtain ⟨L, hL⟩ : ∃ L, L = freshL m t := ⟨_, rfl⟩
  rw [← hL] at hts
  rw [← hQ2, ← hA3]
  go_enter Try.func71, Try.ntmps71
  go_wp2_with fail
  generalize ((w.alloc (.cells #[.int .i64 t.c, .int .i64 t.r, .int .i64 t.q, .int .i64 t.a, .int .i64 t.b, .slice s.a s.n s.c] 30)).alloc (.cells #[.int .i64 0, .int .i64 0, .int .i64 0, .int .i64 0, .int .i64 0, .slice none 0 0] 30)) = W at *
  have zW : w.heap.size + 1 < W.heap.size := HR.out.lt
  have NUM : Hid (∀ W', Below W.heap.size W W' → Calls Try.prog 130 #[.agg #[.int .i64 t.c, .int .i64 t.r, .int .i64 t.q, .int .i64 t.a, .int .i64 t.b, .slice s.a s.n s.c], .int .i64 m.id, .slice u.lv.a u.lv.n u.lv.c, .slice u.tx.a u.tx.n u.tx.c] W' fun e w' => ∃ sw fs : Sv, e = .returned (.tuple #[.agg #[.int .i64 t.c, .int .i64 t.r, .int .i64 Q2, .int .i64 A3, .int .i64 t.b, .slice sw.a sw.n sw.c], .slice fs.a fs.n fs.c]) ∧ OwnI w' W'.heap.size sw.v t.ws ∧ SlI w' W'.heap.size fs.v L ∧ Below W'.heap.size W' w') := fun W' hb => by
    rw [hQ2, hA3, hL]
    exact numberT_s t m.id s u.lv u.tx m.lv m.tx W' (show Hid (OwnI W' 0 s.v t.ws) from HS.out.keep fun k _ hk => hb.block k hk) hl (show Hid (RI W' u.lv.v m.lv) from HO.out.lv.ri.stays hb) hsz.out.lv (show Hid (RT W' u.tx.v m.tx) from HO.out.tx.rt.stays hb) hsz.out.tx
  have HSP : Hid (∀ (w' : World) (sw fs n lv tx : Sv), MbB w' g ⟨m.id, m.rid, m.ms, putAll m.its L, m.lv.drop (goneN m), m.tx.drop (goneN m), m.rd, m.se, m.li, m.he, m.la⟩ ⟨u.ms, n, lv, tx, u.ws⟩ it ∧ MtC w' B ⟨m.id, m.rid, m.ms, putAll m.its L, m.lv.drop (goneN m), m.tx.drop (goneN m), m.rd, m.se, m.li, m.he, m.la⟩ ⟨u.ms, n, lv, tx, u.ws⟩ ∧ OwnI w' w.heap.size sw.v t.ws ∧ SlI w' w.heap.size fs.v L ∧ Below B w w' ∧ (∀ k, k < w.heap.size → k ≠ g → u.its.v.ownBlock ≠ some k → w'.heap[k]? = w.heap[k]?) → MbB w' g (m.spoke t) ⟨u.ms, n, lv, tx, u.ws⟩ it ∧ MtC w' B (m.spoke t) ⟨u.ms, n, lv, tx, u.ws⟩ ∧ OwnI w' w.heap.size sw.v t.ws ∧ SlI w' w.heap.size fs.v (freshL m t) ∧ Below B w w' ∧ (∀ k, k < w.heap.size → k ≠ g → u.its.v.ownBlock ≠ some k → w'.heap[k]? = w.heap[k]?)) := fun w' sw fs n lv tx hh => by
    unfold Mt.spoke; rw [← hL]; exact hh
  have hL3 : L.length ≤ 3 := by rw [hL]; exact numL_len _ _ _ _ _ _ _ _ _
  have ITL : Hid (∀ k, u.its.v.ownBlock = some k → k < W.heap.size) := fun k hk => (HO.out.its.lt k hk).2
  clear hQ2 hA3 hL
  go_cut [6, 7] (fun u6 u7 wx => ∃ (gn : Nat) (sw fs : Sv), u6 = .pointer (some ⟨gn, 0, none⟩) ∧ u7 = .slice fs.a fs.n fs.c ∧ Bx wx gn 30 [.int .i64 t.c, .int .i64 t.r, .int .i64 Q2, .int .i64 A3, .int .i64 t.b, .slice sw.a sw.n sw.c] ∧ OwnI wx W.heap.size sw.v t.ws ∧ SlI wx W.heap.size fs.v L ∧ W.heap.size ≤ gn ∧ Below W.heap.size W wx)
  case first =>
    have c : Below W.heap.size W W.drew := (Below.refl _ _).drew
    refine wp_region_held_drew (S := fun w' => Below W.heap.size W w') (by kernel_rfl) c (fun hHeld => ?_)
    refine wpAnyH_take (i := 0) (v := _) rfl (by kernel_rfl) (by kernel_rfl) (by kernel_rfl) (fun _ _ _ h => h) (ld_yield (by rfl) 30 _ rfl w.heap.size 0 rfl 30 _ (fun w hS => HT.out.later hS) [.int .i64 t.c, .int .i64 t.r, .int .i64 t.q, .int .i64 t.a, .int .i64 t.b, .slice s.a s.n s.c] rfl _ Try.underlying30 rfl Try.sizeT) (by assumption) ?_
    try simp only [Act.put, List.getElem_toArray, List.getElem_cons_zero, List.getElem_cons_succ, List.setIfInBounds_toArray, List.set_cons_zero, List.set_cons_succ]
    refine wpAnyH_take (i := 1) (v := ?v1b2) rfl (by kernel_rfl) (by kernel_rfl) (by kernel_rfl) (fun _ _ _ h => h) (Or.inl ⟨by rfl, ?hy1b2⟩) (by assumption) ?_
    case hy1b2 => (intro w hSw; (try dsimp only at hSw); simp only [List.getElem_toArray, List.getElem_cons_zero, List.getElem_cons_succ]; go_simp; try with_reducible rfl)
    try simp only [Act.put, List.getElem_toArray, List.getElem_cons_zero, List.getElem_cons_succ, List.setIfInBounds_toArray, List.set_cons_zero, List.set_cons_succ]
    refine wpAnyH_take (i := 2) (v := ?v2b3) rfl (by kernel_rfl) (by kernel_rfl) (by kernel_rfl) (fun _ _ _ h => h) (Or.inl ⟨by rfl, ?hy2b3⟩) (by assumption) ?_
    case hy2b3 => (intro w hSw; (try dsimp only at hSw); simp only [List.getElem_toArray, List.getElem_cons_zero, List.getElem_cons_succ]; go_simp; try with_reducible rfl)
    try simp only [Act.put, List.getElem_toArray, List.getElem_cons_zero, List.getElem_cons_succ, List.setIfInBounds_toArray, List.set_cons_zero, List.set_cons_succ]
    refine wpAnyH_take (i := 3) (v := ?v3b4) rfl (by kernel_rfl) (by kernel_rfl) (by kernel_rfl) (fun _ _ _ h => h) (Or.inl ⟨by rfl, ?hy3b4⟩) (by assumption) ?_
    case hy3b4 => (intro w hSw; (try dsimp only at hSw); simp only [List.getElem_toArray, List.getElem_cons_zero, List.getElem_cons_succ]; go_simp; try with_reducible rfl)
    try simp only [Act.put, List.getElem_toArray, List.getElem_cons_zero, List.getElem_cons_succ, List.setIfInBounds_toArray, List.set_cons_zero, List.set_cons_succ]
    refine wpAnyH_take (i := 4) (v := ?v4b5) rfl (by kernel_rfl) (by kernel_rfl) (by kernel_rfl) (fun _ _ _ h => h) (Or.inl ⟨by rfl, ?hy4b5⟩) (by assumption) ?_
    case hy4b5 => (intro w hSw; (try dsimp only at hSw); simp only [List.getElem_toArray, List.getElem_cons_zero, List.getElem_cons_succ]; go_simp; try with_reducible rfl)
    try simp only [Act.put, List.getElem_toArray, List.getElem_cons_zero, List.getElem_cons_succ, List.setIfInBounds_toArray, List.set_cons_zero, List.set_cons_succ]
    refine wpAnyH_take (i := 5) (v := _) rfl (by kernel_rfl) (by kernel_rfl) (by kernel_rfl) (fun _ _ _ h => h) (ld1_yield (by rfl) 3 _ rfl g 1 rfl 115 _ (fun w hS => HG.out.later hS) (.int .i64 m.id) rfl _ Try.underlying3 rfl) (by assumption) ?_
    try simp only [Act.put, List.getElem_toArray, List.getElem_cons_zero, List.getElem_cons_succ, List.setIfInBounds_toArray, List.set_cons_zero, List.set_cons_succ]
    refine wpAnyH_take (i := 6) (v := ?v6b7) rfl (by kernel_rfl) (by kernel_rfl) (by kernel_rfl) (fun _ _ _ h => h) (Or.inl ⟨by rfl, ?hy6b7⟩) (by assumption) ?_
    case hy6b7 => (intro w hSw; (try dsimp only at hSw); simp only [List.getElem_toArray, List.getElem_cons_zero, List.getElem_cons_succ]; go_simp; try with_reducible rfl)
    try simp only [Act.put, List.getElem_toArray, List.getElem_cons_zero, List.getElem_cons_succ, List.setIfInBounds_toArray, List.set_cons_zero, List.set_cons_succ]
    refine wpAnyH_take (i := 7) (v := ?v7b8) rfl (by kernel_rfl) (by kernel_rfl) (by kernel_rfl) (fun _ _ _ h => h) (Or.inl ⟨by rfl, ?hy7b8⟩) (by assumption) ?_
    case hy7b8 => (intro w hSw; (try dsimp only at hSw); simp only [List.getElem_toArray, List.getElem_cons_zero, List.getElem_cons_succ]; go_simp; try with_reducible rfl)
    try simp only [Act.put, List.getElem_toArray, List.getElem_cons_zero, List.getElem_cons_succ, List.setIfInBounds_toArray, List.set_cons_zero, List.set_cons_succ]
    refine wpAnyH_take (i := 8) (v := ?v8b9) rfl (by kernel_rfl) (by kernel_rfl) (by kernel_rfl) (fun _ _ _ h => h) (Or.inl ⟨by rfl, ?hy8b9⟩) (by assumption) ?_
    case hy8b9 => (intro w hSw; (try dsimp only at hSw); simp only [List.getElem_toArray, List.getElem_cons_zero, List.getElem_cons_succ]; go_simp; try with_reducible rfl)
    try simp only [Act.put, List.getElem_toArray, List.getElem_cons_zero, List.getElem_cons_succ, List.setIfInBounds_toArray, List.set_cons_zero, List.set_cons_succ]
    refine wpAnyH_take (i := 9) (v := ?v9b10) rfl (by kernel_rfl) (by kernel_rfl) (by kernel_rfl) (fun _ _ _ h => h) (Or.inl ⟨by rfl, ?hy9b10⟩) (by assumption) ?_
    case hy9b10 => (intro w hSw; (try dsimp only at hSw); simp only [List.getElem_toArray, List.getElem_cons_zero, List.getElem_cons_succ]; go_simp; try with_reducible rfl)
    try simp only [Act.put, List.getElem_toArray, List.getElem_cons_zero, List.getElem_cons_succ, List.setIfInBounds_toArray, List.set_cons_zero, List.set_cons_succ]
    refine wpAnyH_take (i := 10) (v := _) rfl (by kernel_rfl) (by kernel_rfl) (by kernel_rfl) (fun _ _ _ h => h) (ld1_yield (by rfl) 24 _ rfl g 5 rfl 115 _ (fun w hS => HG.out.later hS) (.slice u.lv.a u.lv.n u.lv.c) rfl _ Try.underlying24 rfl) (by assumption) ?_
    try simp only [Act.put, List.getElem_toArray, List.getElem_cons_zero, List.getElem_cons_succ, List.setIfInBounds_toArray, List.set_cons_zero, List.set_cons_succ]
    refine wpAnyH_take (i := 11) (v := ?v11b12) rfl (by kernel_rfl) (by kernel_rfl) (by kernel_rfl) (fun _ _ _ h => h) (Or.inl ⟨by rfl, ?hy11b12⟩) (by assumption) ?_
    case hy11b12 => (intro w hSw; (try dsimp only at hSw); simp only [List.getElem_toArray, List.getElem_cons_zero, List.getElem_cons_succ]; go_simp; try with_reducible rfl)
    try simp only [Act.put, List.getElem_toArray, List.getElem_cons_zero, List.getElem_cons_succ, List.setIfInBounds_toArray, List.set_cons_zero, List.set_cons_succ]
    refine wpAnyH_take (i := 12) (v := ?v12b13) rfl (by kernel_rfl) (by kernel_rfl) (by kernel_rfl) (fun _ _ _ h => h) (Or.inl ⟨by rfl, ?hy12b13⟩) (by assumption) ?_
    case hy12b13 => (intro w hSw; (try dsimp only at hSw); simp only [List.getElem_toArray, List.getElem_cons_zero, List.getElem_cons_succ]; go_simp; try with_reducible rfl)
    try simp only [Act.put, List.getElem_toArray, List.getElem_cons_zero, List.getElem_cons_succ, List.setIfInBounds_toArray, List.set_cons_zero, List.set_cons_succ]
    refine wpAnyH_take (i := 13) (v := ?v13b14) rfl (by kernel_rfl) (by kernel_rfl) (by kernel_rfl) (fun _ _ _ h => h) (Or.inl ⟨by rfl, ?hy13b14⟩) (by assumption) ?_
    case hy13b14 => (intro w hSw; (try dsimp only at hSw); simp only [List.getElem_toArray, List.getElem_cons_zero, List.getElem_cons_succ]; go_simp; try with_reducible rfl)
    try simp only [Act.put, List.getElem_toArray, List.getElem_cons_zero, List.getElem_cons_succ, List.setIfInBounds_toArray, List.set_cons_zero, List.set_cons_succ]
    refine wpAnyH_take (i := 14) (v := ?v14b15) rfl (by kernel_rfl) (by kernel_rfl) (by kernel_rfl) (fun _ _ _ h => h) (Or.inl ⟨by rfl, ?hy14b15⟩) (by assumption) ?_
    case hy14b15 => (intro w hSw; (try dsimp only at hSw); simp only [List.getElem_toArray, List.getElem_cons_zero, List.getElem_cons_succ]; go_simp; try with_reducible rfl)
    try simp only [Act.put, List.getElem_toArray, List.getElem_cons_zero, List.getElem_cons_succ, List.setIfInBounds_toArray, List.set_cons_zero, List.set_cons_succ]
    refine wpAnyH_take (i := 15) (v := _) rfl (by kernel_rfl) (by kernel_rfl) (by kernel_rfl) (fun _ _ _ h => h) (ld1_yield (by rfl) 28 _ rfl g 6 rfl 115 _ (fun w hS => HG.out.later hS) (.slice u.tx.a u.tx.n u.tx.c) rfl _ Try.underlying28 rfl) (by assumption) ?_
    try simp only [Act.put, List.getElem_toArray, List.getElem_cons_zero, List.getElem_cons_succ, List.setIfInBounds_toArray, List.set_cons_zero, List.set_cons_succ]
    refine wpAnyH_ready (rs := [16, 20]) (by kernel_rfl) (by simp) ?_
    refine (AllReadyH.cons (i := 16) rfl (fun K hK => ?_) (AllReadyH.cons (i := 20) rfl (fun K hK => ?_) AllReadyH.nil))
    · skip
      rw [if_pos (by rfl)]
      simp only [List.getElem_toArray, List.getElem_cons_zero, List.getElem_cons_succ]
      go_simp
      refine (NUM.out _ c).mono ?_
      rintro e y1 ⟨sw, fs, rfl, os1, of1, b⟩
      have zc : W.heap.size ≤ W.drew.heap.size := c.size
      have OS1 : Hid (OwnI y1 W.heap.size (.slice sw.a sw.n sw.c) t.ws) := os1.down zc
      have OF1 : Hid (SlI y1 W.heap.size (.slice fs.a fs.n fs.c) L) := of1.down zc
      have c : Below W.heap.size W y1 := bl_next c b
      refine hK.out _ _ (c) (fun hHeld => ?_)
      clear hK K
      try simp only [Act.put, List.getElem_toArray, List.getElem_cons_zero, List.getElem_cons_succ, List.setIfInBounds_toArray, List.set_cons_zero, List.set_cons_succ]
      clear b os1 of1 zc
      refine wpAnyH_take (i := 17) (v := ?v17b17) rfl (by kernel_rfl) (by kernel_rfl) (by kernel_rfl) (fun _ _ _ h => h) (Or.inl ⟨by rfl, ?hy17b17⟩) (by assumption) ?_
      case hy17b17 => (intro w hSw; (try dsimp only at hSw); simp only [List.getElem_toArray, List.getElem_cons_zero, List.getElem_cons_succ]; go_simp; try with_reducible rfl)
      try simp only [Act.put, List.getElem_toArray, List.getElem_cons_zero, List.getElem_cons_succ, List.setIfInBounds_toArray, List.set_cons_zero, List.set_cons_succ]
      refine wpAnyH_take (i := 18) (v := ?v18b18) rfl (by kernel_rfl) (by kernel_rfl) (by kernel_rfl) (fun _ _ _ h => h) (Or.inl ⟨by rfl, ?hy18b18⟩) (by assumption) ?_
      case hy18b18 => (intro w hSw; (try dsimp only at hSw); simp only [List.getElem_toArray, List.getElem_cons_zero, List.getElem_cons_succ]; go_simp; try with_reducible rfl)
      try simp only [Act.put, List.getElem_toArray, List.getElem_cons_zero, List.getElem_cons_succ, List.setIfInBounds_toArray, List.set_cons_zero, List.set_cons_succ]
      refine wpAnyH_take (i := 19) (v := ?v19b19) rfl (by kernel_rfl) (by kernel_rfl) (by kernel_rfl) (fun _ _ _ h => h) (Or.inl ⟨by rfl, ?hy19b19⟩) (by assumption) ?_
      case hy19b19 => (intro w hSw; (try dsimp only at hSw); simp only [List.getElem_toArray, List.getElem_cons_zero, List.getElem_cons_succ]; go_simp; try with_reducible rfl)
      try simp only [Act.put, List.getElem_toArray, List.getElem_cons_zero, List.getElem_cons_succ, List.setIfInBounds_toArray, List.set_cons_zero, List.set_cons_succ]
      refine wpAnyH_ready (rs := [20]) (by kernel_rfl) (by simp) ?_
      refine AllReadyH.cons (i := 20) rfl (fun K hK => ?_) AllReadyH.nil
      rw [if_pos (by rfl)]
      simp only [List.getElem_toArray, List.getElem_cons_zero, List.getElem_cons_succ]
      go_simp
      have BX2 : Hid (Bx (y1.alloc (.cells #[.int .i64 0, .int .i64 0, .int .i64 0, .int .i64 0, .int .i64 0, .slice none 0 0] 30)) y1.heap.size 30 [.int .i64 0, .int .i64 0, .int .i64 0, .int .i64 0, .int .i64 0, .slice none 0 0]) := by have h := Bx.new y1 30 [.int .i64 0, .int .i64 0, .int .i64 0, .int .i64 0, .int .i64 0, .slice none 0 0]; rw [show y1.heap.size = y1.heap.size by simp] at h; exact h
      have zq : W.heap.size ≤ y1.heap.size := by have h := c.size; rw [show y1.heap.size = y1.heap.size by simp] at h; exact h
      have c : Below W.heap.size W (y1.alloc (.cells #[.int .i64 0, .int .i64 0, .int .i64 0, .int .i64 0, .int .i64 0, .slice none 0 0] 30)) := c.alloc c.size _
      have OS1 : Hid (OwnI (y1.alloc (.cells #[.int .i64 0, .int .i64 0, .int .i64 0, .int .i64 0, .int .i64 0, .slice none 0 0] 30)) W.heap.size (.slice sw.a sw.n sw.c) t.ws) := OS1.out.alloc _
      have OF1 : Hid (SlI (y1.alloc (.cells #[.int .i64 0, .int .i64 0, .int .i64 0, .int .i64 0, .int .i64 0, .slice none 0 0] 30)) W.heap.size (.slice fs.a fs.n fs.c) L) := Sl.alloc OF1.out _
      refine hK.out _ _ (c) (fun hHeld => ?_)
      clear hK K
      try simp only [Act.put, List.getElem_toArray, List.getElem_cons_zero, List.getElem_cons_succ, List.setIfInBounds_toArray, List.set_cons_zero, List.set_cons_succ]
      refine wpAnyH_ready (rs := [21]) (by kernel_rfl) (by simp) ?_
      refine AllReadyH.cons (i := 21) rfl (fun K hK => ?_) AllReadyH.nil
      rw [if_pos (by rfl)]
      simp only [List.getElem_toArray, List.getElem_cons_zero, List.getElem_cons_succ]
      refine wp_stB 30 _ _ rfl (y1.heap.size) 0 (by rfl) 30 _ BX2.out [.int .i64 t.c, .int .i64 t.r, .int .i64 Q2, .int .i64 A3, .int .i64 t.b, .slice sw.a sw.n sw.c] (by rfl) (by simp) Try.sizeT rfl [.int .i64 t.c, .int .i64 t.r, .int .i64 Q2, .int .i64 A3, .int .i64 t.b, .slice sw.a sw.n sw.c] rfl ?_
      intro y3 RB3 TB3
      have OS := OS1.out.past BX2.out TB3 (by decide)
      have OF := OF1.out.past BX2.out TB3 (by decide)
      have c : Below W.heap.size W y3 := c.trans (TB3.below zq)
      refine hK.out _ _ (c) (fun hHeld => ?_)
      clear hK K
      try simp only [Act.put, List.getElem_toArray, List.getElem_cons_zero, List.getElem_cons_succ, List.setIfInBounds_toArray, List.set_cons_zero, List.set_cons_succ]
      refine wpAnyH_take (i := 22) (v := ?v22b20) rfl (by kernel_rfl) (by kernel_rfl) (by kernel_rfl) (fun _ _ _ h => h) (Or.inl ⟨by rfl, ?hy22b20⟩) (by assumption) ?_
      case hy22b20 => (intro w hSw; (try dsimp only at hSw); simp only [List.getElem_toArray, List.getElem_cons_zero, List.getElem_cons_succ]; go_simp; try with_reducible rfl)
      try simp only [Act.put, List.getElem_toArray, List.getElem_cons_zero, List.getElem_cons_succ, List.setIfInBounds_toArray, List.set_cons_zero, List.set_cons_succ]
      refine wpAnyH_done (by kernel_rfl) ?_ _
      try go_wp2_with fail
      go_meet
      exact ⟨_, sw, fs, rfl, rfl, RB3, OS, OF, zq, c⟩
    · skip
      rw [if_pos (by rfl)]
      simp only [List.getElem_toArray, List.getElem_cons_zero, List.getElem_cons_succ]
      go_simp
      have BX1 : Hid (Bx (W.drew.alloc (.cells #[.int .i64 0, .int .i64 0, .int .i64 0, .int .i64 0, .int .i64 0, .slice none 0 0] 30)) W.heap.size 30 [.int .i64 0, .int .i64 0, .int .i64 0, .int .i64 0, .int .i64 0, .slice none 0 0]) := by have h := Bx.new W.drew 30 [.int .i64 0, .int .i64 0, .int .i64 0, .int .i64 0, .int .i64 0, .slice none 0 0]; rw [show W.drew.heap.size = W.heap.size by simp] at h; exact h
      have zq : W.heap.size ≤ W.heap.size := by have h := c.size; rw [show W.drew.heap.size = W.heap.size by simp] at h; exact h
      have c : Below W.heap.size W (W.drew.alloc (.cells #[.int .i64 0, .int .i64 0, .int .i64 0, .int .i64 0, .int .i64 0, .slice none 0 0] 30)) := c.alloc c.size _
      refine hK.out _ _ (c) (fun hHeld => ?_)
      clear hK K
      try simp only [Act.put, List.getElem_toArray, List.getElem_cons_zero, List.getElem_cons_succ, List.setIfInBounds_toArray, List.set_cons_zero, List.set_cons_succ]
      refine wpAnyH_ready (rs := [16]) (by kernel_rfl) (by simp) ?_
      refine AllReadyH.cons (i := 16) rfl (fun K hK => ?_) AllReadyH.nil
      rw [if_pos (by rfl)]
      simp only [List.getElem_toArray, List.getElem_cons_zero, List.getElem_cons_succ]
      go_simp
      refine (NUM.out _ c).mono ?_
      rintro e y2 ⟨sw, fs, rfl, os2, of2, b⟩
      have zc : W.heap.size ≤ (W.drew.alloc (.cells #[.int .i64 0, .int .i64 0, .int .i64 0, .int .i64 0, .int .i64 0, .slice none 0 0] 30)).heap.size := c.size
      have BX1 : Hid (Bx y2 W.heap.size 30 [.int .i64 0, .int .i64 0, .int .i64 0, .int .i64 0, .int .i64 0, .slice none 0 0]) := BX1.out.later b
      have OS2 : Hid (OwnI y2 W.heap.size (.slice sw.a sw.n sw.c) t.ws) := os2.down zc
      have OF2 : Hid (SlI y2 W.heap.size (.slice fs.a fs.n fs.c) L) := of2.down zc
      have c : Below W.heap.size W y2 := bl_next c b
      refine hK.out _ _ (c) (fun hHeld => ?_)
      clear hK K
      try simp only [Act.put, List.getElem_toArray, List.getElem_cons_zero, List.getElem_cons_succ, List.setIfInBounds_toArray, List.set_cons_zero, List.set_cons_succ]
      clear b os2 of2 zc
      refine wpAnyH_take (i := 17) (v := ?v17b21) rfl (by kernel_rfl) (by kernel_rfl) (by kernel_rfl) (fun _ _ _ h => h) (Or.inl ⟨by rfl, ?hy17b21⟩) (by assumption) ?_
      case hy17b21 => (intro w hSw; (try dsimp only at hSw); simp only [List.getElem_toArray, List.getElem_cons_zero, List.getElem_cons_succ]; go_simp; try with_reducible rfl)
      try simp only [Act.put, List.getElem_toArray, List.getElem_cons_zero, List.getElem_cons_succ, List.setIfInBounds_toArray, List.set_cons_zero, List.set_cons_succ]
      refine wpAnyH_take (i := 18) (v := ?v18b22) rfl (by kernel_rfl) (by kernel_rfl) (by kernel_rfl) (fun _ _ _ h => h) (Or.inl ⟨by rfl, ?hy18b22⟩) (by assumption) ?_
      case hy18b22 => (intro w hSw; (try dsimp only at hSw); simp only [List.getElem_toArray, List.getElem_cons_zero, List.getElem_cons_succ]; go_simp; try with_reducible rfl)
      try simp only [Act.put, List.getElem_toArray, List.getElem_cons_zero, List.getElem_cons_succ, List.setIfInBounds_toArray, List.set_cons_zero, List.set_cons_succ]
      refine wpAnyH_take (i := 19) (v := ?v19b23) rfl (by kernel_rfl) (by kernel_rfl) (by kernel_rfl) (fun _ _ _ h => h) (Or.inl ⟨by rfl, ?hy19b23⟩) (by assumption) ?_
      case hy19b23 => (intro w hSw; (try dsimp only at hSw); simp only [List.getElem_toArray, List.getElem_cons_zero, List.getElem_cons_succ]; go_simp; try with_reducible rfl)
      try simp only [Act.put, List.getElem_toArray, List.getElem_cons_zero, List.getElem_cons_succ, List.setIfInBounds_toArray, List.set_cons_zero, List.set_cons_succ]
      refine wpAnyH_ready (rs := [21]) (by kernel_rfl) (by simp) ?_
      refine AllReadyH.cons (i := 21) rfl (fun K hK => ?_) AllReadyH.nil
      rw [if_pos (by rfl)]
      simp only [List.getElem_toArray, List.getElem_cons_zero, List.getElem_cons_succ]
      refine wp_stB 30 _ _ rfl (W.heap.size) 0 (by rfl) 30 _ BX1.out [.int .i64 t.c, .int .i64 t.r, .int .i64 Q2, .int .i64 A3, .int .i64 t.b, .slice sw.a sw.n sw.c] (by rfl) (by simp) Try.sizeT rfl [.int .i64 t.c, .int .i64 t.r, .int .i64 Q2, .int .i64 A3, .int .i64 t.b, .slice sw.a sw.n sw.c] rfl ?_
      intro y3 RB3 TB3
      have OS := OS2.out.past BX1.out TB3 (by decide)
      have OF := OF2.out.past BX1.out TB3 (by decide)
      have c : Below W.heap.size W y3 := c.trans (TB3.below zq)
      refine hK.out _ _ (c) (fun hHeld => ?_)
      clear hK K
      try simp only [Act.put, List.getElem_toArray, List.getElem_cons_zero, List.getElem_cons_succ, List.setIfInBounds_toArray, List.set_cons_zero, List.set_cons_succ]
      refine wpAnyH_take (i := 22) (v := ?v22b24) rfl (by kernel_rfl) (by kernel_rfl) (by kernel_rfl) (fun _ _ _ h => h) (Or.inl ⟨by rfl, ?hy22b24⟩) (by assumption) ?_
      case hy22b24 => (intro w hSw; (try dsimp only at hSw); simp only [List.getElem_toArray, List.getElem_cons_zero, List.getElem_cons_succ]; go_simp; try with_reducible rfl)
      try simp only [Act.put, List.getElem_toArray, List.getElem_cons_zero, List.getElem_cons_succ, List.setIfInBounds_toArray, List.set_cons_zero, List.set_cons_succ]
      refine wpAnyH_done (by kernel_rfl) ?_ _
      try go_wp2_with fail
      go_meet
      exact ⟨_, sw, fs, rfl, rfl, RB3, OS, OF, zq, c⟩
  case rest =>
  obtain ⟨gn, sw, fs, rfl, rfl, hbn, hos, hof, zgn, b1⟩ := hcut
  generalize wc = w1 at *
  have N1 : Hid (Bx w1 gn 30 [.int .i64 t.c, .int .i64 t.r, .int .i64 Q2, .int .i64 A3, .int .i64 t.b, .slice sw.a sw.n sw.c]) := hbn
  have OS1 : Hid (OwnI w1 W.heap.size sw.v t.ws) := hos
  have OF1 : Hid (SlI w1 W.heap.size fs.v L) := hof
  have G1 : Hid (Bx w1 g 115 [.slice u.its.a u.its.n u.its.c, .int .i64 m.id, .int .i64 m.rid, .slice u.ms.a u.ms.n u.ms.c, .slice it.a it.n it.c, .slice u.lv.a u.lv.n u.lv.c, .slice u.tx.a u.tx.n u.tx.c, .int .i64 m.rd, .int .i64 m.se, .int .i64 m.li, .int .i64 m.he, .int .i64 m.la.c, .int .i64 m.la.r, .int .i64 m.la.q, .int .i64 m.la.a, .int .i64 m.la.b, .slice u.ws.a u.ws.n u.ws.c]) := HG.out.later b1
  have R1 : Hid (Bx w1 (w.heap.size + 1) 30 [.int .i64 0, .int .i64 0, .int .i64 0, .int .i64 0, .int .i64 0, .slice none 0 0]) := HR.out.later b1
  have O1 : Hid (MtO w1 B m u) := HO.out.later b1
  have B1 : Hid (Below w.heap.size w w1) := bl_next HB.out b1
  have F1 : Hid (∀ k, k < w.heap.size → k ≠ g → u.its.v.ownBlock ≠ some k → w1.heap[k]? = w.heap[k]?) := fun k hk _ _ => B1.out.block k hk
  have zn1 : gn < w1.heap.size := N1.out.lt
  obtain ⟨k, hk⟩ : ∃ k : Nat, k = goneN m := ⟨_, rfl⟩
  have hkx : k ≤ m.tx.length := by rw [hk]; exact Nat.min_le_right _ _
  have hkl : k ≤ m.lv.length := by rw [hll.out]; exact hkx
  have htn : u.tx.n = m.tx.length := by obtain ⟨a0, c0, e0⟩ := O1.out.tx.form; simp [Sv.v] at e0; exact e0.2.1
  have hln : u.lv.n = m.lv.length := by obtain ⟨a0, c0, e0⟩ := O1.out.lv.form; simp [Sv.v] at e0; exact e0.2.1
  have hmin : min (3 : Int) (u.tx.n : Int) = (k : Int) := by rw [htn, hk]; unfold goneN; omega
  have HMN : Hid (min (3 : Int) (u.tx.n : Int) = (k : Int)) := hmin
  have HK : Hid (k = goneN m) := hk
  have LV1 : Hid (Sl w1 3 1 B (.slice u.lv.a u.lv.n u.lv.c) u.lv.n (m.lv.map (Value.int .i64))) := by have h := O1.out.lv.j; unfold SlJ Sv.v at h; rw [← hln] at h; exact h
  have TX1 : Hid (Sl w1 9 1 B (.slice u.tx.a u.tx.n u.tx.c) u.tx.n (m.tx.map Value.string)) := by have h := O1.out.tx.x; unfold SlX Sv.v at h; rw [← htn] at h; exact h
  have hk1 : k ≤ u.lv.n := by omega
  have hk2 : k ≤ u.tx.n := by omega
  have HLN : Hid (u.lv.n = m.lv.length ∧ u.tx.n = m.tx.length) := ⟨hln, htn⟩
  clear hbn hos hof b1 HG HR HO HB HT HS NUM hk hkx hkl htn hln hsz hll
  have q6 := G1.out.cell 6
  have q5 := G1.out.cell 5
  refine ‹∀ (a : Act) (w : World), Code.wp _ _ _ a w → _› _ _ ?_
  refine wp_seq_k fun _ _ => ?_
  go_cut [8] (fun u8 wx => u8 = .int .i64 (k : Nat) ∧ w1 = wx)
  case first =>
    by_cases h3 : 3 ≤ u.tx.n
    · have hk3 : Hid ((k : Int) = 3) := (by omega : (k : Int) = 3)
      clear hmin
      go_wp2_with fail
      go_meet
      exact ⟨by first | (rw [hk3.out]; done) | rw [HMN.out], rfl⟩
    · have hk3 : Hid ((k : Int) = (u.tx.n : Int)) := (by omega : (k : Int) = (u.tx.n : Int))
      clear hmin
      go_wp2_with fail
      go_meet
      exact ⟨by first | (rw [hk3.out]; done) | rw [HMN.out], rfl⟩
  case rest =>
  obtain ⟨rfl, rfl⟩ := hcut
  clear hmin
  refine ‹∀ (a : Act) (w : World), Code.wp _ _ _ a w → _› _ _ ?_
  refine wp_seq_k fun _ _ => ?_
  go_cut [] (fun wx => ∃ s3 : Sv, Bx wx g 115 [.slice u.its.a u.its.n u.its.c, .int .i64 m.id, .int .i64 m.rid, .slice u.ms.a u.ms.n u.ms.c, .slice it.a it.n it.c, .slice s3.a s3.n s3.c, .slice u.tx.a u.tx.n u.tx.c, .int .i64 m.rd, .int .i64 m.se, .int .i64 m.li, .int .i64 m.he, .int .i64 m.la.c, .int .i64 m.la.r, .int .i64 m.la.q, .int .i64 m.la.a, .int .i64 m.la.b, .slice u.ws.a u.ws.n u.ws.c] ∧ s3.n = u.lv.n - k ∧ Sl w1 3 1 B (.slice s3.a s3.n s3.c) (u.lv.n - k) ((m.lv.map (Value.int .i64)).drop (k * 1)) ∧ TurnAt g w1 wx)
  case first =>
    by_cases hc : u.lv.c = k
    · have HC : Hid (u.lv.c = k) := hc
      go_wp2_with (first | (refine wpList_st1 rfl 24 _ _ rfl g 5 rfl 115 _ G1.out _ rfl (by simp) rfl Try.sizeNs _ rfl ?_; intro w2 G2 T2))
      go_meet
      exact ⟨⟨u.lv.a, u.lv.n - k, 0⟩, G2, rfl, by have h := Sl.sliced LV1.out hk1; rw [if_pos HC.out, HC.out, Nat.sub_self] at h; exact h, T2⟩
    · have HC : Hid (¬ u.lv.c = k) := hc
      go_wp2_with (first | (refine wpList_st1 rfl 24 _ _ rfl g 5 rfl 115 _ G1.out _ rfl (by simp) rfl Try.sizeNs _ rfl ?_; intro w2 G2 T2))
      go_meet
      exact ⟨⟨u.lv.a.map (fun x => x.add k), u.lv.n - k, u.lv.c - k⟩, G2, rfl, by have h := Sl.sliced LV1.out hk1; rw [if_neg HC.out, Nat.mul_one] at h; rw [Nat.mul_one]; exact h, T2⟩
  case rest =>
  obtain ⟨s3, G2, hn3, LV3, T2⟩ := hcut
  have LV3 : Hid (Sl w1 3 1 B (.slice s3.a s3.n s3.c) (u.lv.n - k) ((m.lv.map (Value.int .i64)).drop (k * 1))) := LV3
  generalize wc = w2 at *
  have K2 : Hid (KeepTy (fun X => X = 115) w1 w2) := KeepTy.ofTurn G1.out T2 rfl
  have G2 : Hid (Bx w2 g 115 [.slice u.its.a u.its.n u.its.c, .int .i64 m.id, .int .i64 m.rid, .slice u.ms.a u.ms.n u.ms.c, .slice it.a it.n it.c, .slice s3.a s3.n s3.c, .slice u.tx.a u.tx.n u.tx.c, .int .i64 m.rd, .int .i64 m.se, .int .i64 m.li, .int .i64 m.he, .int .i64 m.la.c, .int .i64 m.la.r, .int .i64 m.la.q, .int .i64 m.la.a, .int .i64 m.la.b, .slice u.ws.a u.ws.n u.ws.c]) := G2
  have N2 : Hid (Bx w2 gn 30 [.int .i64 t.c, .int .i64 t.r, .int .i64 Q2, .int .i64 A3, .int .i64 t.b, .slice sw.a sw.n sw.c]) := N1.out.kt K2.out (by decide)
  have R2 : Hid (Bx w2 (w.heap.size + 1) 30 [.int .i64 0, .int .i64 0, .int .i64 0, .int .i64 0, .int .i64 0, .slice none 0 0]) := R1.out.kt K2.out (by decide)
  have OS2 : Hid (OwnI w2 W.heap.size sw.v t.ws) := OS1.out.kt K2.out (by decide)
  have OF2 : Hid (SlI w2 W.heap.size fs.v L) := OF1.out.kt K2.out (by decide)
  have LV2 : Hid (Sl w2 3 1 B (.slice s3.a s3.n s3.c) (u.lv.n - k) ((m.lv.map (Value.int .i64)).drop (k * 1))) := Sl.kt LV3.out K2.out (by decide)
  have TX2 : Hid (Sl w2 9 1 B (.slice u.tx.a u.tx.n u.tx.c) u.tx.n (m.tx.map Value.string)) := Sl.kt TX1.out K2.out (by decide)
  have MS2 : Hid (OwnI w2 B u.ms.v m.ms) := O1.out.ms.kt K2.out (by decide)
  have IT2 : Hid (SlI w2 B u.its.v m.its) := O1.out.its.kt K2.out (by decide)
  have WS2 : Hid (OwnI w2 B u.ws.v m.la.ws) := O1.out.ws.kt K2.out (by decide)
  have F2 : Hid (∀ k, k < w.heap.size → k ≠ g → u.its.v.ownBlock ≠ some k → w2.heap[k]? = w.heap[k]?) := fun k hk hn hv => (T2.block k hn).trans (F1.out k hk hn hv)
  have B2 : Hid (Below B w w2) := (B1.out.mono hBw).trans (T2.below hB)
  have s12 : w1.heap.size = w2.heap.size := T2.size.symm
  have sz2 : Hid (W.heap.size ≤ w2.heap.size ∧ gn < w2.heap.size) := by have := zn1; exact ⟨by omega, by omega⟩
  clear G1 N1 R1 OS1 OF1 LV1 LV3 TX1 O1 B1 K2 T2 q5 q6 s12
  have q6 := G2.out.cell 6
  refine ‹∀ (a : Act) (w : World), Code.wp _ _ _ a w → _› _ _ ?_
  refine wp_seq_k fun _ _ => ?_
  go_cut [] (fun wx => ∃ s4 : Sv, Bx wx g 115 [.slice u.its.a u.its.n u.its.c, .int .i64 m.id, .int .i64 m.rid, .slice u.ms.a u.ms.n u.ms.c, .slice it.a it.n it.c, .slice s3.a s3.n s3.c, .slice s4.a s4.n s4.c, .int .i64 m.rd, .int .i64 m.se, .int .i64 m.li, .int .i64 m.he, .int .i64 m.la.c, .int .i64 m.la.r, .int .i64 m.la.q, .int .i64 m.la.a, .int .i64 m.la.b, .slice u.ws.a u.ws.n u.ws.c] ∧ s4.n = u.tx.n - k ∧ Sl w2 9 1 B (.slice s4.a s4.n s4.c) (u.tx.n - k) ((m.tx.map Value.string).drop (k * 1)) ∧ TurnAt g w2 wx)
  case first =>
    by_cases hc : u.tx.c = k
    · have HC : Hid (u.tx.c = k) := hc
      go_wp2_with (first | (refine wpList_st1 rfl 28 _ _ rfl g 6 rfl 115 _ G2.out _ rfl (by simp) rfl Try.sizeTs _ rfl ?_; intro w3 G3 T3))
      go_meet
      exact ⟨⟨u.tx.a, u.tx.n - k, 0⟩, G3, rfl, by have h := Sl.sliced TX2.out hk2; rw [if_pos HC.out, HC.out, Nat.sub_self] at h; exact h, T3⟩
    · have HC : Hid (¬ u.tx.c = k) := hc
      go_wp2_with (first | (refine wpList_st1 rfl 28 _ _ rfl g 6 rfl 115 _ G2.out _ rfl (by simp) rfl Try.sizeTs _ rfl ?_; intro w3 G3 T3))
      go_meet
      exact ⟨⟨u.tx.a.map (fun x => x.add k), u.tx.n - k, u.tx.c - k⟩, G3, rfl, by have h := Sl.sliced TX2.out hk2; rw [if_neg HC.out, Nat.mul_one] at h; rw [Nat.mul_one]; exact h, T3⟩
  case rest =>
  obtain ⟨s4, G3, hn4, TX4, T3⟩ := hcut
  have TX4 : Hid (Sl w2 9 1 B (.slice s4.a s4.n s4.c) (u.tx.n - k) ((m.tx.map Value.string).drop (k * 1))) := TX4
  generalize wc = w3 at *
  have K3 : Hid (KeepTy (fun X => X = 115) w2 w3) := KeepTy.ofTurn G2.out T3 rfl
  have G3 : Hid (Bx w3 g 115 [.slice u.its.a u.its.n u.its.c, .int .i64 m.id, .int .i64 m.rid, .slice u.ms.a u.ms.n u.ms.c, .slice it.a it.n it.c, .slice s3.a s3.n s3.c, .slice s4.a s4.n s4.c, .int .i64 m.rd, .int .i64 m.se, .int .i64 m.li, .int .i64 m.he, .int .i64 m.la.c, .int .i64 m.la.r, .int .i64 m.la.q, .int .i64 m.la.a, .int .i64 m.la.b, .slice u.ws.a u.ws.n u.ws.c]) := G3
  have N3 : Hid (Bx w3 gn 30 [.int .i64 t.c, .int .i64 t.r, .int .i64 Q2, .int .i64 A3, .int .i64 t.b, .slice sw.a sw.n sw.c]) := N2.out.kt K3.out (by decide)
  have R3 : Hid (Bx w3 (w.heap.size + 1) 30 [.int .i64 0, .int .i64 0, .int .i64 0, .int .i64 0, .int .i64 0, .slice none 0 0]) := R2.out.kt K3.out (by decide)
  have OS3 : Hid (OwnI w3 W.heap.size sw.v t.ws) := OS2.out.kt K3.out (by decide)
  have OF3 : Hid (SlI w3 W.heap.size fs.v L) := OF2.out.kt K3.out (by decide)
  have LV3 : Hid (SlJ w3 B (.slice s3.a s3.n s3.c) (m.lv.drop k)) := by
    have h := Sl.kt LV2.out K3.out (by decide)
    unfold SlJ
    rw [List.length_drop, List.map_drop, ← HLN.out.1]
    rw [Nat.mul_one] at h
    exact h
  have TX3 : Hid (SlX w3 B (.slice s4.a s4.n s4.c) (m.tx.drop k)) := by
    have h := Sl.kt TX4.out K3.out (by decide)
    unfold SlX
    rw [List.length_drop, List.map_drop, ← HLN.out.2]
    rw [Nat.mul_one] at h
    exact h
  have MS3 : Hid (OwnI w3 B u.ms.v m.ms) := MS2.out.kt K3.out (by decide)
  have IT3 : Hid (SlI w3 B u.its.v m.its) := IT2.out.kt K3.out (by decide)
  have WS3 : Hid (OwnI w3 B u.ws.v m.la.ws) := WS2.out.kt K3.out (by decide)
  have F3 : Hid (∀ k, k < w.heap.size → k ≠ g → u.its.v.ownBlock ≠ some k → w3.heap[k]? = w.heap[k]?) := fun k hk hn hv => (T3.block k hn).trans (F2.out k hk hn hv)
  have B3 : Hid (Below B w w3) := B2.out.trans (T3.below hB)
  have s23 : w2.heap.size = w3.heap.size := T3.size.symm
  have sz3 : Hid (W.heap.size ≤ w3.heap.size ∧ gn < w3.heap.size) := by have := sz2.out; exact ⟨by omega, by omega⟩
  clear G2 N2 R2 OS2 OF2 LV2 TX2 TX4 MS2 IT2 WS2 B2 K3 T3 q6 sz2 s23 hk1 hk2
  go_wp2_with fail
  refine (take_its ⟨m.id, m.rid, m.ms, m.its, m.lv.drop k, m.tx.drop k, m.rd, m.se, m.li, m.he, m.la⟩ ⟨u.ms, u.its, s3, s4, u.ws⟩ it g B fs L _ G3 IT3 hA (show Hid (RIt w3 fs.v L) from OF3.out.rit) hB (by show m.its.length + L.length ≤ 1048576; omega) hts).mono ?_
  rintro e w4 ⟨rfl, n, g4, it4, tk, b4⟩
  have K4 : Hid (KeepTy (fun X => X = 115 ∨ X = 38) w3 w4) := tk.kt G3.out IT3.out
  have G4 : Hid (MbB w4 g ⟨m.id, m.rid, m.ms, putAll m.its L, m.lv.drop k, m.tx.drop k, m.rd, m.se, m.li, m.he, m.la⟩ ⟨u.ms, n, s3, s4, u.ws⟩ it) := g4
  have IT4 : Hid (SlI w4 B n.v (putAll m.its L)) := it4
  have N4 : Hid (Bx w4 gn 30 [.int .i64 t.c, .int .i64 t.r, .int .i64 Q2, .int .i64 A3, .int .i64 t.b, .slice sw.a sw.n sw.c]) := N3.out.kt K4.out (by decide)
  have R4 : Hid (Bx w4 (w.heap.size + 1) 30 [.int .i64 0, .int .i64 0, .int .i64 0, .int .i64 0, .int .i64 0, .slice none 0 0]) := R3.out.kt K4.out (by decide)
  have OS4 : Hid (OwnI w4 w.heap.size sw.v t.ws) := (OS3.out.kt K4.out (by decide)).down (by omega)
  have OF4 : Hid (SlI w4 w.heap.size fs.v L) := (OF3.out.keep fun k hk hlt => tk.block k hlt (by have := (OF3.out.lt k hk).1; omega) (fun e => by have := (OF3.out.lt k hk).1; have := ITL.out k e; omega)).down (by omega)
  have LV4 : Hid (SlJ w4 B (.slice s3.a s3.n s3.c) (m.lv.drop k)) := LV3.out.kt K4.out (by decide)
  have TX5 : Hid (SlX w4 B (.slice s4.a s4.n s4.c) (m.tx.drop k)) := TX3.out.kt K4.out (by decide)
  have MS4 : Hid (OwnI w4 B u.ms.v m.ms) := MS3.out.kt K4.out (by decide)
  have WS4 : Hid (OwnI w4 B u.ws.v m.la.ws) := WS3.out.kt K4.out (by decide)
  have B4 : Hid (Below B w w4) := B3.out.trans b4
  have NB : Hid (n.v.ownBlock = u.its.v.ownBlock ∨ ∃ nb, n.v.ownBlock = some nb ∧ w.heap.size ≤ nb) := by
    rcases tk.o with e | ⟨nb, e, z⟩
    · exact .inl e
    · exact .inr ⟨nb, e, by have := sz3.out; omega⟩
  have F4 : Hid (∀ k, k < w.heap.size → k ≠ g → u.its.v.ownBlock ≠ some k → w4.heap[k]? = w.heap[k]?) := fun k hk hn hv => (tk.block k (by have := sz3.out; omega) hn hv).trans (F3.out k hk hn hv)
  clear g4 it4 tk b4 K4 G3 IT3 N3 R3 OS3 OF3 LV3 TX3 MS3 WS3 B3 hA hts ITL
  go_wp2_with (first | (refine wpList_ldG rfl 30 _ rfl gn 0 rfl 30 _ N4.out [.int .i64 t.c, .int .i64 t.r, .int .i64 Q2, .int .i64 A3, .int .i64 t.b, .slice sw.a sw.n sw.c] rfl _ Try.underlying30 rfl Try.sizeT ?_) | (refine wpList_stB rfl 30 _ _ rfl (w.heap.size + 1) 0 rfl 30 _ R4.out [.int .i64 t.c, .int .i64 t.r, .int .i64 Q2, .int .i64 A3, .int .i64 t.b, .slice sw.a sw.n sw.c] rfl (by simp) Try.sizeT rfl [.int .i64 t.c, .int .i64 t.r, .int .i64 Q2, .int .i64 A3, .int .i64 t.b, .slice sw.a sw.n sw.c] rfl ?_; intro w5 R5 T5))
  have K5 : KeepTy (fun X => X = 30) w4 w5 := KeepTy.ofTurn R4.out T5 rfl
  refine bodyPost_ret (results_bt Try.results71 (w.heap.size + 1) 30 [.int .i64 t.c, .int .i64 t.r, .int .i64 Q2, .int .i64 A3, .int .i64 t.b, .slice sw.a sw.n sw.c] _ rfl R5 Try.underlying30 rfl Try.sizeT) rfl ?_
  have hh := HSP.out w5 sw fs n s3 s4 ?_
  · obtain ⟨q1, q2, q3, q4, q5, q6⟩ := hh
    exact ⟨sw, fs, n, s3, s4, rfl, q1, q2, q3, q4, q5, q6, NB.out⟩
  rw [← HK.out]
  exact ⟨Bx.kt G4.out K5 (by decide), ⟨MS4.out.kt K5 (by decide), IT4.out.kt K5 (by decide), LV4.out.kt K5 (by decide), TX5.out.kt K5 (by decide), WS4.out.kt K5 (by decide)⟩, OS4.out.kt K5 (by decide), OF4.out.kt K5 (by decide), B4.out.trans (T5.below (by omega)), fun k hk hn hv => (T5.block k (by omega)).trans (F4.out k hk hn hv)⟩
end Go.Proofs.Ythdjkkiegecgnaa


/- Hear. -/
namespace Go.Proofs.Ythdjkkiegecgnaa
open Go.RowKit Pl
set_option linter.unusedVariables false
set_option linter.unusedSimpArgs false

/-- the member behind it. -/
def Mt.hadH (m : Mt) : Mt := m.setH (m.he + m.hear.length)

end Go.Proofs.Ythdjkkiegecgnaa


/- What a member hears: the program's Hear, over lists that are read. -/
namespace Go.Proofs.Ythdjkkiegecgnaa
open Go.RowKit Pl
set_option linter.unusedVariables false
set_option linter.unusedSimpArgs false

set_option maxRecDepth 100000 in
set_option maxHeartbeats 4000000 in
theorem hearQ_any (m : Mt) (v : Mv) (w : World) (h : Hid (MtQ w m v)) (hs : Hid (MtS m)) (h0 : 0 ≤ m.he) (hh : m.he ≤ 1048576) (ha : aruP m.its ≤ 1048576) :
    Calls Try.prog 11 #[.agg #[.int .i64 m.id, .int .i64 m.rid, .slice v.ms.a v.ms.n v.ms.c, .slice v.its.a v.its.n v.its.c, .slice v.lv.a v.lv.n v.lv.c, .slice v.tx.a v.tx.n v.tx.c, .int .i64 m.rd, .int .i64 m.se, .int .i64 m.li, .int .i64 m.he, .int .i64 m.la.c, .int .i64 m.la.r, .int .i64 m.la.q, .int .i64 m.la.a, .int .i64 m.la.b, .slice v.ws.a v.ws.n v.ws.c]] w fun e w' => ∃ (u : Mv) (s : Sv) (h' : Int), h' = m.he + m.hear.length ∧ e = .returned (.tuple #[.agg #[.int .i64 m.id, .int .i64 m.rid, .slice u.ms.a u.ms.n u.ms.c, .slice u.its.a u.its.n u.its.c, .slice u.lv.a u.lv.n u.lv.c, .slice u.tx.a u.tx.n u.tx.c, .int .i64 m.rd, .int .i64 m.se, .int .i64 m.li, .int .i64 h', .int .i64 m.la.c, .int .i64 m.la.r, .int .i64 m.la.q, .int .i64 m.la.a, .int .i64 m.la.b, .slice u.ws.a u.ws.n u.ws.c], .slice s.a s.n s.c]) ∧ MtO w' w.heap.size m.hadH u ∧ SlI w' w.heap.size s.v m.hear ∧ (∀ k, s.v.ownBlock = some k → ¬ u.own k) ∧ Below w.heap.size w w' := by
  have hn1 : (w.alloc (.cells #[.int .i64 m.id, .int .i64 m.rid, .slice v.ms.a v.ms.n v.ms.c, .slice v.its.a v.its.n v.its.c, .slice v.lv.a v.lv.n v.lv.c, .slice v.tx.a v.tx.n v.tx.c, .int .i64 m.rd, .int .i64 m.se, .int .i64 m.li, .int .i64 m.he, .int .i64 m.la.c, .int .i64 m.la.r, .int .i64 m.la.q, .int .i64 m.la.a, .int .i64 m.la.b, .slice v.ws.a v.ws.n v.ws.c] 32)).heap.size = w.heap.size + 1 := by simp
  have HA : Hid (Bx ((w.alloc (.cells #[.int .i64 m.id, .int .i64 m.rid, .slice v.ms.a v.ms.n v.ms.c, .slice v.its.a v.its.n v.its.c, .slice v.lv.a v.lv.n v.lv.c, .slice v.tx.a v.tx.n v.tx.c, .int .i64 m.rd, .int .i64 m.se, .int .i64 m.li, .int .i64 m.he, .int .i64 m.la.c, .int .i64 m.la.r, .int .i64 m.la.q, .int .i64 m.la.a, .int .i64 m.la.b, .slice v.ws.a v.ws.n v.ws.c] 32)).alloc (.cells #[.int .i64 0, .int .i64 0, .slice none 0 0, .slice none 0 0, .slice none 0 0, .slice none 0 0, .int .i64 0, .int .i64 0, .int .i64 0, .int .i64 0, .int .i64 0, .int .i64 0, .int .i64 0, .int .i64 0, .int .i64 0, .slice none 0 0] 32)) w.heap.size 32 [.int .i64 m.id, .int .i64 m.rid, .slice v.ms.a v.ms.n v.ms.c, .slice v.its.a v.its.n v.its.c, .slice v.lv.a v.lv.n v.lv.c, .slice v.tx.a v.tx.n v.tx.c, .int .i64 m.rd, .int .i64 m.se, .int .i64 m.li, .int .i64 m.he, .int .i64 m.la.c, .int .i64 m.la.r, .int .i64 m.la.q, .int .i64 m.la.a, .int .i64 m.la.b, .slice v.ws.a v.ws.n v.ws.c]) := by
    have h := Bx.new w 32 [.int .i64 m.id, .int .i64 m.rid, .slice v.ms.a v.ms.n v.ms.c, .slice v.its.a v.its.n v.its.c, .slice v.lv.a v.lv.n v.lv.c, .slice v.tx.a v.tx.n v.tx.c, .int .i64 m.rd, .int .i64 m.se, .int .i64 m.li, .int .i64 m.he, .int .i64 m.la.c, .int .i64 m.la.r, .int .i64 m.la.q, .int .i64 m.la.a, .int .i64 m.la.b, .slice v.ws.a v.ws.n v.ws.c]
    exact h.stays (B := w.heap.size + 1) ((Below.refl _ _).alloc (by rw [hn1]; exact Nat.le_refl _) _) (by omega)
  have HR : Hid (Bx ((w.alloc (.cells #[.int .i64 m.id, .int .i64 m.rid, .slice v.ms.a v.ms.n v.ms.c, .slice v.its.a v.its.n v.its.c, .slice v.lv.a v.lv.n v.lv.c, .slice v.tx.a v.tx.n v.tx.c, .int .i64 m.rd, .int .i64 m.se, .int .i64 m.li, .int .i64 m.he, .int .i64 m.la.c, .int .i64 m.la.r, .int .i64 m.la.q, .int .i64 m.la.a, .int .i64 m.la.b, .slice v.ws.a v.ws.n v.ws.c] 32)).alloc (.cells #[.int .i64 0, .int .i64 0, .slice none 0 0, .slice none 0 0, .slice none 0 0, .slice none 0 0, .int .i64 0, .int .i64 0, .int .i64 0, .int .i64 0, .int .i64 0, .int .i64 0, .int .i64 0, .int .i64 0, .int .i64 0, .slice none 0 0] 32)) (w.heap.size + 1) 32 [.int .i64 0, .int .i64 0, .slice none 0 0, .slice none 0 0, .slice none 0 0, .slice none 0 0, .int .i64 0, .int .i64 0, .int .i64 0, .int .i64 0, .int .i64 0, .int .i64 0, .int .i64 0, .int .i64 0, .int .i64 0, .slice none 0 0]) := by
    have h := Bx.new (w.alloc (.cells #[.int .i64 m.id, .int .i64 m.rid, .slice v.ms.a v.ms.n v.ms.c, .slice v.its.a v.its.n v.its.c, .slice v.lv.a v.lv.n v.lv.c, .slice v.tx.a v.tx.n v.tx.c, .int .i64 m.rd, .int .i64 m.se, .int .i64 m.li, .int .i64 m.he, .int .i64 m.la.c, .int .i64 m.la.r, .int .i64 m.la.q, .int .i64 m.la.a, .int .i64 m.la.b, .slice v.ws.a v.ws.n v.ws.c] 32)) 32 [.int .i64 0, .int .i64 0, .slice none 0 0, .slice none 0 0, .slice none 0 0, .slice none 0 0, .int .i64 0, .int .i64 0, .int .i64 0, .int .i64 0, .int .i64 0, .int .i64 0, .int .i64 0, .int .i64 0, .int .i64 0, .slice none 0 0]
    rw [hn1] at h
    exact h
  have HB : Hid (Below w.heap.size w ((w.alloc (.cells #[.int .i64 m.id, .int .i64 m.rid, .slice v.ms.a v.ms.n v.ms.c, .slice v.its.a v.its.n v.its.c, .slice v.lv.a v.lv.n v.lv.c, .slice v.tx.a v.tx.n v.tx.c, .int .i64 m.rd, .int .i64 m.se, .int .i64 m.li, .int .i64 m.he, .int .i64 m.la.c, .int .i64 m.la.r, .int .i64 m.la.q, .int .i64 m.la.a, .int .i64 m.la.b, .slice v.ws.a v.ws.n v.ws.c] 32)).alloc (.cells #[.int .i64 0, .int .i64 0, .slice none 0 0, .slice none 0 0, .slice none 0 0, .slice none 0 0, .int .i64 0, .int .i64 0, .int .i64 0, .int .i64 0, .int .i64 0, .int .i64 0, .int .i64 0, .int .i64 0, .int .i64 0, .slice none 0 0] 32))) := ((Below.refl _ _).alloc (Nat.le_refl _) _).alloc (by simp) _
  have HP : Hid (MtQ ((w.alloc (.cells #[.int .i64 m.id, .int .i64 m.rid, .slice v.ms.a v.ms.n v.ms.c, .slice v.its.a v.its.n v.its.c, .slice v.lv.a v.lv.n v.lv.c, .slice v.tx.a v.tx.n v.tx.c, .int .i64 m.rd, .int .i64 m.se, .int .i64 m.li, .int .i64 m.he, .int .i64 m.la.c, .int .i64 m.la.r, .int .i64 m.la.q, .int .i64 m.la.a, .int .i64 m.la.b, .slice v.ws.a v.ws.n v.ws.c] 32)).alloc (.cells #[.int .i64 0, .int .i64 0, .slice none 0 0, .slice none 0 0, .slice none 0 0, .slice none 0 0, .int .i64 0, .int .i64 0, .int .i64 0, .int .i64 0, .int .i64 0, .int .i64 0, .int .i64 0, .int .i64 0, .int .i64 0, .slice none 0 0] 32)) m v) := h.out.later HB.out
  clear hn1 h
  go_enter Try.func11, Try.ntmps11
  go_wp2_with (first | (refine wpList_ldG rfl 32 _ rfl w.heap.size 0 rfl 32 _ HA.out [.int .i64 m.id, .int .i64 m.rid, .slice v.ms.a v.ms.n v.ms.c, .slice v.its.a v.its.n v.its.c, .slice v.lv.a v.lv.n v.lv.c, .slice v.tx.a v.tx.n v.tx.c, .int .i64 m.rd, .int .i64 m.se, .int .i64 m.li, .int .i64 m.he, .int .i64 m.la.c, .int .i64 m.la.r, .int .i64 m.la.q, .int .i64 m.la.a, .int .i64 m.la.b, .slice v.ws.a v.ws.n v.ws.c] rfl _ Try.underlying32 rfl Try.sizeM ?_))
  generalize (w.alloc (.cells #[.int .i64 m.id, .int .i64 m.rid, .slice v.ms.a v.ms.n v.ms.c, .slice v.its.a v.its.n v.its.c, .slice v.lv.a v.lv.n v.lv.c, .slice v.tx.a v.tx.n v.tx.c, .int .i64 m.rd, .int .i64 m.se, .int .i64 m.li, .int .i64 m.he, .int .i64 m.la.c, .int .i64 m.la.r, .int .i64 m.la.q, .int .i64 m.la.a, .int .i64 m.la.b, .slice v.ws.a v.ws.n v.ws.c] 32)).alloc (.cells #[.int .i64 0, .int .i64 0, .slice none 0 0, .slice none 0 0, .slice none 0 0, .slice none 0 0, .int .i64 0, .int .i64 0, .int .i64 0, .int .i64 0, .int .i64 0, .int .i64 0, .int .i64 0, .int .i64 0, .int .i64 0, .slice none 0 0] 32) = W at *
  have zw : w.heap.size ≤ W.heap.size := HB.out.size
  have zr : w.heap.size + 1 < W.heap.size := HR.out.lt
  refine (memberOf_q m v _ HP hs).mono ?_
  rintro e w1 ⟨g, u, rfl, hg, o3, zgg, b⟩
  have HG : Hid (MbB w1 g m u zSv) := hg
  have HO : Hid (MtO w1 W.heap.size m u) := o3
  have HR : Hid (Bx w1 (w.heap.size + 1) 32 [.int .i64 0, .int .i64 0, .slice none 0 0, .slice none 0 0, .slice none 0 0, .slice none 0 0, .int .i64 0, .int .i64 0, .int .i64 0, .int .i64 0, .int .i64 0, .int .i64 0, .int .i64 0, .int .i64 0, .int .i64 0, .slice none 0 0]) := HR.out.later b
  have HB : Hid (Below w.heap.size w w1) := bl_next HB.out b
  have z1 : W.heap.size ≤ w1.heap.size := b.size
  clear o3 hg b HP HA
  go_wp2_with fail
  refine (hear_any m u zSv g W.heap.size _ HG HO.out.its hs.out.its hs.out.it h0 hh ha).mono ?_
  rintro e w2 ⟨s, rfl, ss, hg, kk⟩
  have HOL : Hid (∀ k, u.own k → k < w1.heap.size) := fun k hk => (HO.out.lt hk).2
  have HO : Hid (MtO w2 W.heap.size m u) := HO.out.keepb HG.out kk (by decide) (by decide) (by decide)
  have HG : Hid (MbB w2 g (m.setH (m.he + m.hear.length)) u zSv) := hg
  have HS : Hid (SlI w2 w1.heap.size s.v m.hear) := ss
  have HR : Hid (Bx w2 (w.heap.size + 1) 32 [.int .i64 0, .int .i64 0, .slice none 0 0, .slice none 0 0, .slice none 0 0, .slice none 0 0, .int .i64 0, .int .i64 0, .int .i64 0, .int .i64 0, .int .i64 0, .int .i64 0, .int .i64 0, .int .i64 0, .int .i64 0, .slice none 0 0]) := HR.out.keepb kk (by omega)
  have HB : Hid (Below w.heap.size w w2) := HB.out.trans (kk.below (by omega) HB.out.size)
  clear hg ss kk
  obtain ⟨h', hh'⟩ : ∃ h' : Int, h' = m.he + m.hear.length := ⟨_, rfl⟩
  rw [← hh'] at HG
  have HH : Hid (h' = m.he + m.hear.length) := hh'
  clear hh'
  go_wp2_with fail
  refine (mate_any (m.setH h') u zSv g _ HG).mono ?_
  rintro e w3 ⟨rfl, hga, ka⟩
  have HO : Hid (MtO w3 W.heap.size m u) := HO.out.keepb HG.out ka (by decide) (by decide) (by decide)
  have HS : Hid (SlI w3 w1.heap.size s.v m.hear) := HS.out.keepb HG.out ka (by decide)
  have HR : Hid (Bx w3 (w.heap.size + 1) 32 [.int .i64 0, .int .i64 0, .slice none 0 0, .slice none 0 0, .slice none 0 0, .slice none 0 0, .int .i64 0, .int .i64 0, .int .i64 0, .int .i64 0, .int .i64 0, .int .i64 0, .int .i64 0, .int .i64 0, .int .i64 0, .slice none 0 0]) := HR.out.keepb ka (by omega)
  have HB : Hid (Below w.heap.size w w3) := HB.out.trans (ka.below (by omega) HB.out.size)
  clear hga ka HG
  go_wp2_with (first | (refine wpList_stB rfl 32 _ _ rfl (w.heap.size + 1) 0 rfl 32 _ HR.out [.int .i64 m.id, .int .i64 m.rid, .slice u.ms.a u.ms.n u.ms.c, .slice u.its.a u.its.n u.its.c, .slice u.lv.a u.lv.n u.lv.c, .slice u.tx.a u.tx.n u.tx.c, .int .i64 m.rd, .int .i64 m.se, .int .i64 m.li, .int .i64 h', .int .i64 m.la.c, .int .i64 m.la.r, .int .i64 m.la.q, .int .i64 m.la.a, .int .i64 m.la.b, .slice u.ws.a u.ws.n u.ws.c] rfl (by simp) Try.sizeM rfl [.int .i64 m.id, .int .i64 m.rid, .slice u.ms.a u.ms.n u.ms.c, .slice u.its.a u.its.n u.its.c, .slice u.lv.a u.lv.n u.lv.c, .slice u.tx.a u.tx.n u.tx.c, .int .i64 m.rd, .int .i64 m.se, .int .i64 m.li, .int .i64 h', .int .i64 m.la.c, .int .i64 m.la.r, .int .i64 m.la.q, .int .i64 m.la.a, .int .i64 m.la.b, .slice u.ws.a u.ws.n u.ws.c] rfl ?_; intro wz RZ TZ))
  refine bodyPost_ret (results_bt Try.results11 (w.heap.size + 1) 32 [.int .i64 m.id, .int .i64 m.rid, .slice u.ms.a u.ms.n u.ms.c, .slice u.its.a u.its.n u.its.c, .slice u.lv.a u.lv.n u.lv.c, .slice u.tx.a u.tx.n u.tx.c, .int .i64 m.rd, .int .i64 m.se, .int .i64 m.li, .int .i64 h', .int .i64 m.la.c, .int .i64 m.la.r, .int .i64 m.la.q, .int .i64 m.la.a, .int .i64 m.la.b, .slice u.ws.a u.ws.n u.ws.c] _ rfl RZ Try.underlying32 rfl Try.sizeM) rfl ?_
  have o := (HO.out.past HR.out TZ (by decide) (by decide) (by decide)).down zw
  refine ⟨u, s, h', HH.out, rfl, ⟨o.ms, o.its, o.lv, o.tx, o.ws, o.a1, o.a2, o.a3⟩, (HS.out.past HR.out TZ (by decide)).down (by omega), fun k hk ho => ?_, HB.out.trans (TZ.below (by omega))⟩
  have h1 := (HS.out.lt k hk).1
  have h2 := HOL.out k ho
  omega
end Go.Proofs.Ythdjkkiegecgnaa


