/- Joined texts: CDms CLtr CGrl CGrd CLts CDml CRgs CGrq CEqr CWow CWsz. -/
import Derived.Test.YtdodeillifoibaaSq17
import Derived.Laws.MakeOwn
import Derived.Test.YtdodeillifoibaaSq4
import Derived.Test.YtdodeillifoibaaSq15
import Derived.Test.YtdodeillifoibaaSq11
import Derived.Test.YtdodeillifoibaaSq13
/- Lists of daemons measured and copied. Written by gen_sw.py. -/
namespace Go.Proofs.Ytdodeillifoibaa
open Go.RowKit Pl
set_option linter.unusedVariables false
set_option linter.unusedSimpArgs false

def Dm.row (d : Dm) : List Value := [.int .i64 d.id, .bool d.dead, .int .i64 d.m.id, .int .i64 d.m.rid, .slice d.mv.ms.a d.mv.ms.n d.mv.ms.c, .slice d.mv.its.a d.mv.its.n d.mv.its.c, .slice d.mv.lv.a d.mv.lv.n d.mv.lv.c, .slice d.mv.tx.a d.mv.tx.n d.mv.tx.c, .int .i64 d.m.rd, .int .i64 d.m.se, .int .i64 d.m.li, .int .i64 d.m.he, .int .i64 d.m.la.c, .int .i64 d.m.la.r, .int .i64 d.m.la.q, .int .i64 d.m.la.a, .int .i64 d.m.la.b, .slice d.mv.ws.a d.mv.ws.n d.mv.ws.c, .int .i64 d.most, .int .i64 d.old, .int .i64 d.jid, .slice d.js.a d.js.n d.js.c, .slice d.bs.a d.bs.n d.bs.c, .slice d.ls.a d.ls.n d.ls.c]
def Dm.R (w : World) (d : Dm) : Prop := DmR w d
theorem Dm.R.stays {w w' : World} {d : Dm} (h : d.R w) (b : Below w.heap.size w w') : d.R w' := DmR.stays h b
def Dm.S (d : Dm) : Prop := DmS d
def Dm.L (d : Dm) : Prop := DmL d
def Dm.O (w : World) (B : Nat) (d : Dm) : Prop := DmO w B d
theorem Dm.O.r {w : World} {B : Nat} {d : Dm} (h : d.O w B) : d.R w := DmO.r h
theorem Dm.O.keep {w w' : World} {B : Nat} {d : Dm} (h : d.O w B) (hk : ∀ b, B ≤ b → b < w.heap.size → w'.heap[b]? = w.heap[b]?) : d.O w' B := DmO.keep h hk
theorem Dm.O.below {w w' : World} {B : Nat} {d : Dm} (h : d.O w B) (b : Below w.heap.size w w') : d.O w' B := DmO.below h b
theorem Dm.O.down {w : World} {B B' : Nat} {d : Dm} (h : d.O w B) (hB : B' ≤ B) : d.O w B' := DmO.down h hB
/-- (where its lists lie is not asked here.) -/
def Dm.own (_ : Dm) (_ : Nat) : Prop := False
theorem Dm.O.lt {w : World} {B : Nat} {d : Dm} (h : d.O w B) (x : Nat) (hx : d.own x) : B ≤ x ∧ x < w.heap.size := hx.elim
def Dm.Up (_ : Dm) : Prop := True
/-- what a daemon says. -/
def Dm.pl (d : Dm) : (Int × Bool × Mt × Int × Int × Int × List Int) × List (Int × Int × Int × List It) × List (Int × Int × List Int × It × List Int) := ((d.id, d.dead, d.m, d.most, d.old, d.jid, d.jms), d.bu.map Bu.pl, d.lo.map Ev.pl)
theorem Dm.same_of {a b : Dm} (h : a.pl = b.pl) : a.Same b := by
  simp only [Dm.pl, Prod.mk.injEq] at h
  obtain ⟨⟨h1, h2, h3, h4, h5, h6, h7⟩, h8, h9⟩ := h
  exact ⟨h1, h2, h3, h4, h5, h6, h7, h8, h9⟩
theorem Dm.Same.pl {a b : Dm} (h : a.Same b) : a.pl = b.pl := by
  simp only [Dm.pl, Prod.mk.injEq]
  exact ⟨⟨h.id, h.dead, h.m, h.most, h.old, h.jid, h.jms⟩, h.bu, h.lo⟩
/-- a list of them that is read. -/
def DmsR (w : World) (s : Sv) (es : List Dm) : Prop := s.n = es.length ∧ RwA w s.a 24 (es.map Dm.row) ∧ ∀ e ∈ es, e.R w
theorem DmsR.stays {w w' : World} {s : Sv} {es : List Dm} (h : DmsR w s es) (b : Below w.heap.size w w') : DmsR w' s es := ⟨h.1, h.2.1.stays b, fun e he => (h.2.2 e he).stays b⟩
/-- a list of the call's own. -/
def DmsO (w : World) (B : Nat) (s : Sv) (es : List Dm) : Prop := SlN w 77 24 B s.v (es.map Dm.row) ∧ ∀ e ∈ es, e.O w B
theorem DmsO.r {w : World} {B : Nat} {s : Sv} {es : List Dm} (h : DmsO w B s es) : DmsR w s es := ⟨by have := h.1.slen; simpa using this, h.1.rwa, fun e he => (h.2 e he).r⟩
theorem DmsO.keep {w w' : World} {B : Nat} {s : Sv} {es : List Dm} (h : DmsO w B s es) (hk : ∀ b, B ≤ b → b < w.heap.size → w'.heap[b]? = w.heap[b]?) : DmsO w' B s es := ⟨h.1.keep fun b hb hl => hk b (h.1.lt b hb).1 hl, fun e he => (h.2 e he).keep hk⟩
theorem DmsO.below {w w' : World} {B : Nat} {s : Sv} {es : List Dm} (h : DmsO w B s es) (b : Below w.heap.size w w') : DmsO w' B s es := h.keep fun k _ hk => b.block k hk
theorem DmsO.down {w : World} {B B' : Nat} {s : Sv} {es : List Dm} (h : DmsO w B s es) (hB : B' ≤ B) : DmsO w B' s es := ⟨h.1.down hB, fun e he => (h.2 e he).down hB⟩
theorem DmsO.nil (w : World) (B : Nat) : DmsO w B zSv [] := ⟨SlN.nil _ _ _ _, fun e he => by cases he⟩
/-- each one's lists lie behind those of the ones ahead. -/
def DmsUp (es : List Dm) : Prop := (∀ e ∈ es, e.Up) ∧ es.Pairwise fun a b => ∀ x y, a.own x → b.own y → x < y

set_option maxRecDepth 100000 in
set_option maxHeartbeats 4000000 in
theorem szDaemons_any (s : Sv) (es : List Dm) (left : Nat) (w : World) (hx : Hid (DmsR w s es)) (hleft : left ≤ 1048576) (hl : es.length ≤ 9223372036854775807) (hs : Hid (∀ e ∈ es, e.L)) :
    Calls Try.prog 34 #[.slice s.a s.n s.c, .int .i64 left] w fun x w' => (x = .returned (.int .i64 (-1)) ∨ ∃ z : Nat, x = .returned (.int .i64 z) ∧ z ≤ 1048576 ∧ Hid (es.length ≤ left ∧ ∀ e ∈ es, e.S)) ∧ Below w.heap.size w w' := by
  obtain ⟨a, n, c⟩ := s
  dsimp only
  have HN : Hid (n = es.length) := hx.out.1
  have hn : n ≤ 9223372036854775807 := by have := HN.out; omega
  clear hl
  by_cases h1 : left < n
  · have hd : decide ((left : Int) - (n : Int) < 0) = true := by simp; omega
    go_enter Try.func34, Try.ntmps34
    go_wp2_with fail
    go_ret
    exact ⟨.inl rfl, Below.refl _ _⟩
  have hd : decide ((left : Int) - (n : Int) < 0) = false := by simp; omega
  go_enter Try.func34, Try.ntmps34
  go_wp2_with fail
  clear hd
  go_loopw [1, 5] (fun lf i wr => ∃ (k z : Nat), k ≤ n ∧ z ≤ 1048576 ∧ lf = .int .i64 z ∧ i = .int .i64 k ∧ Hid (es.length ≤ left ∧ ∀ e ∈ es.take k, e.S) ∧ Hid (Below w.heap.size w wr)) (fun _ i _ => n - (intOf i).toNat)
  case atStart => exact ⟨0, left - n, Nat.zero_le _, by omega, by congr 1; omega, rfl, ⟨by have := HN.out; omega, fun e he => by simp at he⟩, Below.refl _ _⟩
  case round =>
    obtain ⟨k, z, hk, hz, rfl, rfl, hsm, hb⟩ := hrel
    by_cases hlt : k < n
    · have hlt2 : k < es.length := by have := HN.out; omega
      obtain ⟨g, off, ha, hg, _, hr⟩ := (hx.out.stays hb.out).2.1 k (by simpa using hlt2)
      obtain ⟨e, he⟩ : ∃ e, e = es[k] := ⟨_, rfl⟩
      have hr2 : wr.rangeAt g (off + k * 24) e.row := by rw [he]; simpa using hr
      have HR : Hid (wr.rangeAt g (off + k * 24) e.row) := hr2
      have HE : Hid (e = es[k]) := he
      have RR : Hid (e.R wr) := by rw [he]; exact (hx.out.stays hb.out).2.2 _ (List.getElem_mem hlt2)
      have LL : Hid e.L := by rw [he]; exact hs.out _ (List.getElem_mem hlt2)
      have ha : a = some ⟨g, off, none⟩ := ha
      subst ha
      have i0 : (0 : Int) ≤ (k : Int) := by omega
      have i1 : (k : Int) < (n : Int) := by omega
      clear hr hr2 he hg
      go_wp2_with (first | (refine wpList_ldN rfl 107 _ rfl g (off + k * 24) (by rfl) e.row HR.out _ Try.underlying107 rfl Try.sizeLDa ?_))
      refine (szDaemon_left e z hz _ RR LL).mono ?_
      rintro x w1 ⟨rfl | ⟨r, rfl, hr0, hr1⟩, hb1⟩
      · go_wp2_with fail
        go_ret
        exact ⟨.inl rfl, bl_nxt hb.out hb1⟩
      · have B1 : Hid (Below w.heap.size w w1) := bl_nxt hb.out hb1
        have HR1 : Hid e.S := hr1
        have hrz : r ≤ 1048576 := hr0
        have hd : decide ((r : Int) < 0) = false := by simp
        have HS2 : Hid (es.length ≤ left ∧ ∀ y ∈ es.take (k + 1), y.S) := by
          refine ⟨hsm.out.1, fun y hy => ?_⟩
          rw [List.take_succ_eq_append_getElem hlt2] at hy
          rcases List.mem_append.1 hy with h | h
          · exact hsm.out.2 y h
          · rw [List.mem_singleton.1 h, ← HE.out]; exact HR1.out
        clear hb1 hr1 HR
        go_wp2_with fail
        go_roundw
        case rel => exact ⟨k + 1, r, by omega, hrz, rfl, by go_num, HS2, B1⟩
        case measure => simp [intOf]; omega
    · obtain rfl : k = n := by omega
      go_wp2_with fail
      go_ret
      exact ⟨.inr ⟨z, rfl, hz, ⟨hsm.out.1, by have := hsm.out.2; rwa [HN.out, List.take_of_length_le (Nat.le_refl _)] at this⟩⟩, hb.out⟩
theorem Try.infoDa : (Try.prog.info? 77).map (fun i => (i.zero, i.size, i.bytes)) = some (some (.agg #[.int .i64 0, .bool false, .int .i64 0, .int .i64 0, .slice none 0 0, .slice none 0 0, .slice none 0 0, .slice none 0 0, .int .i64 0, .int .i64 0, .int .i64 0, .int .i64 0, .int .i64 0, .int .i64 0, .int .i64 0, .int .i64 0, .int .i64 0, .slice none 0 0, .int .i64 0, .int .i64 0, .int .i64 0, .slice none 0 0, .slice none 0 0, .slice none 0 0]), 24, 320) := by kernel_rfl
set_option maxRecDepth 100000 in
set_option maxHeartbeats 8000000 in
theorem toDaemons_any (s : Sv) (es : List Dm) (w : World) (hx : Hid (DmsR w s es)) (hl : es.length ≤ 1048576) (hs : Hid (∀ e ∈ es, e.S)) :
    Calls Try.prog 37 #[.slice s.a s.n s.c] w fun x w' => ∃ (u : Sv) (cs : List Dm), x = .returned (.slice u.a u.n u.c) ∧ cs.map Dm.pl = es.map Dm.pl ∧ DmsO w' w.heap.size u cs ∧ DmsUp cs ∧ (∀ b, u.v.ownBlock = some b → b = w.heap.size ∧ ∀ e ∈ cs, ∀ x, e.own x → b < x) ∧ Below w.heap.size w w' := by
  obtain ⟨a, n, c⟩ := s
  dsimp only
  have HN : Hid (n = es.length) := hx.out.1
  have hn : n ≤ 1048576 := by have := HN.out; omega
  clear hl
  obtain ⟨i0, hi, hz0, hz1, hz2⟩ := info_parts Try.infoDa
  obtain ⟨A, hA⟩ : ∃ A : Array Value, A = madeCells (Value.agg #[.int .i64 0, .bool false, .int .i64 0, .int .i64 0, .slice none 0 0, .slice none 0 0, .slice none 0 0, .slice none 0 0, .int .i64 0, .int .i64 0, .int .i64 0, .int .i64 0, .int .i64 0, .int .i64 0, .int .i64 0, .int .i64 0, .int .i64 0, .slice none 0 0, .int .i64 0, .int .i64 0, .int .i64 0, .slice none 0 0, .slice none 0 0, .slice none 0 0]).cells (n * 24) := ⟨_, rfl⟩
  have hmk : ∀ W : World, (Instr.makeSlice 41 (.int .i64 (n : Int)) (.int .i64 (n : Int))).run Try.prog W = .ok (.slice (some ⟨W.heap.size, 0, none⟩) n n) (W.alloc (.cells A 77)) := fun W => by
    have h := run_make (P := Try.prog) W 41 77 i0 _ Try.underlying41 hi hz0 .i64 .i64 (n : Int) (n : Int) (by omega) (by omega) (by rw [hz2]; omega) (by omega)
    rw [hz1, Int.toNat_natCast, ← hA] at h
    simpa using h
  have H0 : Hid (SlN (w.alloc (.cells A 77)) 77 24 w.heap.size (.slice (some ⟨w.heap.size, 0, none⟩) n n) (List.replicate n [.int .i64 0, .bool false, .int .i64 0, .int .i64 0, .slice none 0 0, .slice none 0 0, .slice none 0 0, .slice none 0 0, .int .i64 0, .int .i64 0, .int .i64 0, .int .i64 0, .int .i64 0, .int .i64 0, .int .i64 0, .int .i64 0, .int .i64 0, .slice none 0 0, .int .i64 0, .int .i64 0, .int .i64 0, .slice none 0 0, .slice none 0 0, .slice none 0 0])) := by rw [hA]; exact SlN.zeros w 77 [.int .i64 0, .bool false, .int .i64 0, .int .i64 0, .slice none 0 0, .slice none 0 0, .slice none 0 0, .slice none 0 0, .int .i64 0, .int .i64 0, .int .i64 0, .int .i64 0, .int .i64 0, .int .i64 0, .int .i64 0, .int .i64 0, .int .i64 0, .slice none 0 0, .int .i64 0, .int .i64 0, .int .i64 0, .slice none 0 0, .slice none 0 0, .slice none 0 0] (by simp) rfl n w.heap.size (Nat.le_refl _) hn
  clear hA
  have HB0 : Hid (Below w.heap.size w (w.alloc (.cells A 77))) := (Below.refl _ _).alloc (Nat.le_refl _) _
  have HZ0 : Hid (w.heap.size < (w.alloc (.cells A 77)).heap.size) := (by simp : _ < _)
  go_enter Try.func37, Try.ntmps37
  go_wp2_with fail
  generalize w.alloc (.cells A 77) = W at *
  clear hmk hi hz0 hz1 hz2
  go_loopw [4] (fun i wr => ∃ (k : Nat) (cs : List Dm), k ≤ n ∧ i = .int .i64 k ∧ Hid (cs.length = k) ∧ Hid (cs.map Dm.pl = (es.take k).map Dm.pl) ∧ Hid (SlN wr 77 24 w.heap.size (.slice (some ⟨w.heap.size, 0, none⟩) n n) (cs.map Dm.row ++ List.replicate (n - k) ([.int .i64 0, .bool false, .int .i64 0, .int .i64 0, .slice none 0 0, .slice none 0 0, .slice none 0 0, .slice none 0 0, .int .i64 0, .int .i64 0, .int .i64 0, .int .i64 0, .int .i64 0, .int .i64 0, .int .i64 0, .int .i64 0, .int .i64 0, .slice none 0 0, .int .i64 0, .int .i64 0, .int .i64 0, .slice none 0 0, .slice none 0 0, .slice none 0 0] : List Value))) ∧ Hid (∀ c ∈ cs, c.O wr (w.heap.size + 1)) ∧ Hid (DmsUp cs) ∧ Hid (w.heap.size < wr.heap.size) ∧ Hid (Below w.heap.size w wr)) (fun i _ => n - (intOf i).toNat)
  case atStart => exact ⟨0, [], Nat.zero_le _, rfl, rfl, rfl, (by have h := H0.out; simpa using h : SlN _ _ _ _ _ _), (fun c hc => (by cases hc) : ∀ c ∈ ([] : List Dm), _), ⟨fun e he => (by cases he), List.Pairwise.nil⟩, HZ0, HB0⟩
  case round =>
    obtain ⟨k, cs, hk, rfl, hcl, hpl, hrow, hown, hup, hzl, hb⟩ := hrel
    clear H0 HB0 HZ0
    by_cases hlt : k < n
    · have hlt2 : k < es.length := by have := HN.out; omega
      obtain ⟨g, off, ha, hg, _, hr⟩ := (hx.out.stays hb.out).2.1 k (by simpa using hlt2)
      obtain ⟨e, he⟩ : ∃ e, e = es[k] := ⟨_, rfl⟩
      have hr2 : wr.rangeAt g (off + k * 24) e.row := by rw [he]; simpa using hr
      have HR : Hid (wr.rangeAt g (off + k * 24) e.row) := hr2
      have HE : Hid (e = es[k]) := he
      have RR : Hid (e.R wr) := by rw [he]; exact (hx.out.stays hb.out).2.2 _ (List.getElem_mem hlt2)
      have SS : Hid e.S := by rw [he]; exact hs.out _ (List.getElem_mem hlt2)
      have ha : a = some ⟨g, off, none⟩ := ha
      subst ha
      have i0 : (0 : Int) ≤ (k : Int) := by omega
      have i1 : (k : Int) < (n : Int) := by omega
      clear hr hr2 he hg
      go_wp2_with (first | (refine wpList_ldN rfl 107 _ rfl g (off + k * 24) (by rfl) e.row HR.out _ Try.underlying107 rfl Try.sizeLDa ?_))
      refine (toDaemon_any e _ RR SS).mono ?_
      rintro x w1 ⟨d', rfl, sm, o1, _, b1⟩
      obtain ⟨c1, hc⟩ : ∃ c : Dm, c = d' := ⟨_, rfl⟩
      have CO : Hid (c1.O w1 wr.heap.size) := by rw [hc]; exact o1
      have CU : Hid c1.Up := by rw [hc]; exact trivial
      have CP : Hid (c1.pl = e.pl) := by rw [hc]; exact sm.pl
      have CR : Hid (([.int .i64 d'.id, .bool d'.dead, .int .i64 d'.m.id, .int .i64 d'.m.rid, .slice d'.mv.ms.a d'.mv.ms.n d'.mv.ms.c, .slice d'.mv.its.a d'.mv.its.n d'.mv.its.c, .slice d'.mv.lv.a d'.mv.lv.n d'.mv.lv.c, .slice d'.mv.tx.a d'.mv.tx.n d'.mv.tx.c, .int .i64 d'.m.rd, .int .i64 d'.m.se, .int .i64 d'.m.li, .int .i64 d'.m.he, .int .i64 d'.m.la.c, .int .i64 d'.m.la.r, .int .i64 d'.m.la.q, .int .i64 d'.m.la.a, .int .i64 d'.m.la.b, .slice d'.mv.ws.a d'.mv.ws.n d'.mv.ws.c, .int .i64 d'.most, .int .i64 d'.old, .int .i64 d'.jid, .slice d'.js.a d'.js.n d'.js.c, .slice d'.bs.a d'.bs.n d'.bs.c, .slice d'.ls.a d'.ls.n d'.ls.c] : List Value) = c1.row) := by rw [hc]; rfl
      have B1 : Hid (Below w.heap.size w w1) := bl_nxt hb.out b1
      have R1 : Hid (SlN w1 77 24 w.heap.size (.slice (some ⟨w.heap.size, 0, none⟩) n n) (cs.map Dm.row ++ List.replicate (n - k) ([.int .i64 0, .bool false, .int .i64 0, .int .i64 0, .slice none 0 0, .slice none 0 0, .slice none 0 0, .slice none 0 0, .int .i64 0, .int .i64 0, .int .i64 0, .int .i64 0, .int .i64 0, .int .i64 0, .int .i64 0, .int .i64 0, .int .i64 0, .slice none 0 0, .int .i64 0, .int .i64 0, .int .i64 0, .slice none 0 0, .slice none 0 0, .slice none 0 0] : List Value))) := hrow.out.below b1
      have O1 : Hid (∀ c ∈ cs, c.O w1 (w.heap.size + 1)) := fun c hc => (hown.out c hc).below b1
      have LT : Hid (∀ c ∈ cs, ∀ x, c.own x → x < wr.heap.size) := fun c hc x hx => ((hown.out c hc).lt x hx).2
      have ZL : Hid (w.heap.size + 1 ≤ wr.heap.size) := hzl.out
      have ZL1 : Hid (w.heap.size < w1.heap.size) := Nat.lt_of_lt_of_le hzl.out b1.size
      clear sm HR b1 hrow hown hb hc hzl
      go_wp2_with (first | (with_reducible refine wpList_haltS 77 _ _ rfl ?_))
      refine Stp.go ?_
      have HL : n = (cs.map Dm.row ++ List.replicate (n - k) ([.int .i64 0, .bool false, .int .i64 0, .int .i64 0, .slice none 0 0, .slice none 0 0, .slice none 0 0, .slice none 0 0, .int .i64 0, .int .i64 0, .int .i64 0, .int .i64 0, .int .i64 0, .int .i64 0, .int .i64 0, .int .i64 0, .int .i64 0, .slice none 0 0, .int .i64 0, .int .i64 0, .int .i64 0, .slice none 0 0, .slice none 0 0, .slice none 0 0] : List Value)).length := by have := hcl.out; simp; omega
      have R2 : SlN w1 77 24 w.heap.size (.slice (some ⟨w.heap.size, 0, none⟩) (cs.map Dm.row ++ List.replicate (n - k) ([.int .i64 0, .bool false, .int .i64 0, .int .i64 0, .slice none 0 0, .slice none 0 0, .slice none 0 0, .slice none 0 0, .int .i64 0, .int .i64 0, .int .i64 0, .int .i64 0, .int .i64 0, .int .i64 0, .int .i64 0, .int .i64 0, .int .i64 0, .slice none 0 0, .int .i64 0, .int .i64 0, .int .i64 0, .slice none 0 0, .slice none 0 0, .slice none 0 0] : List Value)).length n) (cs.map Dm.row ++ List.replicate (n - k) ([.int .i64 0, .bool false, .int .i64 0, .int .i64 0, .slice none 0 0, .slice none 0 0, .slice none 0 0, .slice none 0 0, .int .i64 0, .int .i64 0, .int .i64 0, .int .i64 0, .int .i64 0, .int .i64 0, .int .i64 0, .int .i64 0, .int .i64 0, .slice none 0 0, .int .i64 0, .int .i64 0, .int .i64 0, .slice none 0 0, .slice none 0 0, .slice none 0 0] : List Value)) := by rw [← HL]; exact R1.out
      refine wpList_stN (i := k) rfl 77 _ _ rfl R2 (by rw [← HL]; exact hlt) (by rw [Nat.zero_add]; rfl) ([.int .i64 d'.id, .bool d'.dead, .int .i64 d'.m.id, .int .i64 d'.m.rid, .slice d'.mv.ms.a d'.mv.ms.n d'.mv.ms.c, .slice d'.mv.its.a d'.mv.its.n d'.mv.its.c, .slice d'.mv.lv.a d'.mv.lv.n d'.mv.lv.c, .slice d'.mv.tx.a d'.mv.tx.n d'.mv.tx.c, .int .i64 d'.m.rd, .int .i64 d'.m.se, .int .i64 d'.m.li, .int .i64 d'.m.he, .int .i64 d'.m.la.c, .int .i64 d'.m.la.r, .int .i64 d'.m.la.q, .int .i64 d'.m.la.a, .int .i64 d'.m.la.b, .slice d'.mv.ws.a d'.mv.ws.n d'.mv.ws.c, .int .i64 d'.most, .int .i64 d'.old, .int .i64 d'.jid, .slice d'.js.a d'.js.n d'.js.c, .slice d'.bs.a d'.bs.n d'.bs.c, .slice d'.ls.a d'.ls.n d'.ls.c]) rfl rfl rfl Try.sizeDa ?_
      intro w2 R3 T3
      rw [← HL, CR.out] at R3
      have e3 : (cs.map Dm.row ++ List.replicate (n - k) ([.int .i64 0, .bool false, .int .i64 0, .int .i64 0, .slice none 0 0, .slice none 0 0, .slice none 0 0, .slice none 0 0, .int .i64 0, .int .i64 0, .int .i64 0, .int .i64 0, .int .i64 0, .int .i64 0, .int .i64 0, .int .i64 0, .int .i64 0, .slice none 0 0, .int .i64 0, .int .i64 0, .int .i64 0, .slice none 0 0, .slice none 0 0, .slice none 0 0] : List Value)).set k c1.row = (cs ++ [c1]).map Dm.row ++ List.replicate (n - (k + 1)) ([.int .i64 0, .bool false, .int .i64 0, .int .i64 0, .slice none 0 0, .slice none 0 0, .slice none 0 0, .slice none 0 0, .int .i64 0, .int .i64 0, .int .i64 0, .int .i64 0, .int .i64 0, .int .i64 0, .int .i64 0, .int .i64 0, .int .i64 0, .slice none 0 0, .int .i64 0, .int .i64 0, .int .i64 0, .slice none 0 0, .slice none 0 0, .slice none 0 0] : List Value) := by
        have h := set_snoc (cs.map Dm.row) [.int .i64 0, .bool false, .int .i64 0, .int .i64 0, .slice none 0 0, .slice none 0 0, .slice none 0 0, .slice none 0 0, .int .i64 0, .int .i64 0, .int .i64 0, .int .i64 0, .int .i64 0, .int .i64 0, .int .i64 0, .int .i64 0, .int .i64 0, .slice none 0 0, .int .i64 0, .int .i64 0, .int .i64 0, .slice none 0 0, .slice none 0 0, .slice none 0 0] c1.row (n - (k + 1))
        rw [show n - (k + 1) + 1 = n - k by omega, List.length_map, hcl.out] at h
        rw [h, List.map_append]
        rfl
      rw [e3] at R3
      have R4 : Hid (SlN w2 77 24 w.heap.size (.slice (some ⟨w.heap.size, 0, none⟩) n n) ((cs ++ [c1]).map Dm.row ++ List.replicate (n - (k + 1)) ([.int .i64 0, .bool false, .int .i64 0, .int .i64 0, .slice none 0 0, .slice none 0 0, .slice none 0 0, .slice none 0 0, .int .i64 0, .int .i64 0, .int .i64 0, .int .i64 0, .int .i64 0, .int .i64 0, .int .i64 0, .int .i64 0, .int .i64 0, .slice none 0 0, .int .i64 0, .int .i64 0, .int .i64 0, .slice none 0 0, .slice none 0 0, .slice none 0 0] : List Value))) := R3
      have T4 : Hid (TurnAt w.heap.size w1 w2) := T3
      clear R1 R2 R3 T3 HL e3 CR
      go_wp2_with fail
      go_roundw
      case rel =>
        have kp : ∀ c : Dm, c.O w1 (w.heap.size + 1) → c.O w2 (w.heap.size + 1) := fun c h => h.keep fun b hb _ => T4.out.block b (by omega)
        refine ⟨k + 1, cs ++ [c1], by omega, by go_num, (by have := hcl.out; simp; omega : _ = _), ?_, R4, fun x hx => ?_, ⟨fun x hx => ?_, ?_⟩, (by have h := T4.out.size; have := ZL1.out; omega : _ < _), B1.out.trans (T4.out.below (Nat.le_refl _))⟩
        · show _ = _
          rw [List.map_append, hpl.out, List.take_succ_eq_append_getElem hlt2, List.map_append, ← HE.out]
          simp [CP.out]
        · rcases List.mem_append.1 hx with h | h
          · exact kp _ (O1.out x h)
          · rw [List.mem_singleton.1 h]; exact kp _ (CO.out.down ZL.out)
        · rcases List.mem_append.1 hx with h | h
          · exact hup.out.1 x h
          · rw [List.mem_singleton.1 h]; exact CU.out
        · refine List.pairwise_append.2 ⟨hup.out.2, List.pairwise_singleton _ _, fun a ha b hb x y hx hy => ?_⟩
          rw [List.mem_singleton.1 hb] at hy
          have h1 := LT.out a ha x hx
          have h2 := (CO.out.lt y hy).1
          omega
      case measure => simp [intOf]; omega
    · obtain rfl : k = n := by omega
      go_wp2_with fail
      go_ret
      have hr := hrow.out
      rw [Nat.sub_self, List.replicate_zero, List.append_nil] at hr
      refine ⟨⟨some ⟨w.heap.size, 0, none⟩, _, _⟩, cs, rfl, ?_, ⟨hr, fun e he => (hown.out e he).down (Nat.le_succ _)⟩, hup.out, fun b hb => ?_, hb.out⟩
      · have h := hpl.out
        rwa [HN.out, List.take_of_length_le (Nat.le_refl _)] at h
      · simp [Sv.v, Value.ownBlock] at hb
        subst hb
        exact ⟨rfl, fun e he x hx => by have := ((hown.out e he).lt x hx).1; omega⟩
end Go.Proofs.Ytdodeillifoibaa


/- Letters, held against each other. Written by gen_lt.py. -/
namespace Go.Proofs.Ytdodeillifoibaa
open Go.RowKit Pl
set_option linter.unusedVariables false
set_option linter.unusedSimpArgs false

/-- a letter, and where its lists lie. -/
structure Lt where
  k : Int
  ad : Int
  cf : Int
  q : Int
  f : Int
  l : Int
  t : ByteArray
  tc : Int
  tr : Int
  tq : Int
  ta : Int
  tb : Int
  ws : List Int
  bf : Int
  bn : Int
  bo : Int
  ts : List It
  sw : Sv
  sb : Sv
def Lt.row (e : Lt) : List Value := [.int .i64 e.k, .int .i64 e.ad, .int .i64 e.cf, .int .i64 e.q, .int .i64 e.f, .int .i64 e.l, .string e.t, .int .i64 e.tc, .int .i64 e.tr, .int .i64 e.tq, .int .i64 e.ta, .int .i64 e.tb, .slice e.sw.a e.sw.n e.sw.c, .int .i64 e.bf, .int .i64 e.bn, .int .i64 e.bo, .slice e.sb.a e.sb.n e.sb.c]
def Lt.pl (e : Lt) : (Int × Int × Int) × It × (Int × Int × Int × Int × Int × List Int) × Int × Int × Int × List It := ((e.k, e.ad, e.cf), (e.q, e.f, e.l, e.t), (e.tc, e.tr, e.tq, e.ta, e.tb, e.ws), e.bf, e.bn, e.bo, e.ts)
def Lt.R (w : World) (e : Lt) : Prop := RI w e.sw.v e.ws ∧ RSt w e.sb e.ts
theorem Lt.R.stays {w w' : World} {e : Lt} (h : e.R w) (b : Below w.heap.size w w') : e.R w' := ⟨h.1.stays b, RSt.stays h.2 b⟩
def Lt.S (e : Lt) : Prop := e.t.size ≤ 1048576 ∧ e.ws.length ≤ 1048576 ∧ e.ts.length ≤ 1048576
def Lt.L (e : Lt) : Prop := e.t.size ≤ 9223372036854775807 ∧ e.ws.length ≤ 9223372036854775807 ∧ e.ts.length ≤ 9223372036854775807 ∧ ∀ x ∈ e.ts, x.2.2.2.size ≤ 9223372036854775807
def Lt.O (w : World) (B : Nat) (e : Lt) : Prop := OwnI w B e.sw.v e.ws ∧ SlI w B e.sb.v e.ts
theorem Lt.O.r {w : World} {B : Nat} {e : Lt} (h : e.O w B) : e.R w := ⟨h.1.ri, SlI.rst h.2⟩
theorem Lt.O.keep {w w' : World} {B : Nat} {e : Lt} (h : e.O w B) (hk : ∀ b, B ≤ b → b < w.heap.size → w'.heap[b]? = w.heap[b]?) : e.O w' B := ⟨OwnI.keep h.1 fun b hb hl => hk b (OwnI.lt h.1 b hb).1 hl, Sl.keep h.2 fun b hb hl => hk b (Sl.lt h.2 b hb).1 hl⟩
theorem Lt.O.below {w w' : World} {B : Nat} {e : Lt} (h : e.O w B) (b : Below w.heap.size w w') : e.O w' B := h.keep fun k _ hk => b.block k hk
theorem Lt.O.down {w : World} {B B' : Nat} {e : Lt} (h : e.O w B) (hB : B' ≤ B) : e.O w B' := ⟨OwnI.down h.1 hB, Sl.down h.2 hB⟩
def Lt.own (e : Lt) (x : Nat) : Prop := e.sw.v.ownBlock = some x ∨ e.sb.v.ownBlock = some x
theorem Lt.O.lt {w : World} {B : Nat} {e : Lt} (h : e.O w B) (x : Nat) (hx : e.own x) : B ≤ x ∧ x < w.heap.size := by
  rcases hx with hx | hx
  · exact OwnI.lt h.1 x hx
  · exact Sl.lt h.2 x hx
theorem Try.sizeLt9 : (Try.prog.info? 117).map (·.size) = some 17 := by kernel_rfl
theorem Try.sizeT9 : (Try.prog.info? 72).map (·.size) = some 6 := by kernel_rfl
set_option maxRecDepth 100000 in
set_option maxHeartbeats 8000000 in
theorem eqLetter_any (e : Lt) (a1 a2 b1 b2 : Sv) (w : World) (hs : Hid e.S) (h1 : Hid (OwnI w 0 a1.v e.ws)) (h2 : Hid (SlI w 0 a2.v e.ts)) (h3 : Hid (OwnI w 0 b1.v e.ws)) (h4 : Hid (SlI w 0 b2.v e.ts)) :
    Calls Try.prog 66 #[.agg #[.int .i64 e.k, .int .i64 e.ad, .int .i64 e.cf, .int .i64 e.q, .int .i64 e.f, .int .i64 e.l, .string e.t, .int .i64 e.tc, .int .i64 e.tr, .int .i64 e.tq, .int .i64 e.ta, .int .i64 e.tb, .slice a1.a a1.n a1.c, .int .i64 e.bf, .int .i64 e.bn, .int .i64 e.bo, .slice a2.a a2.n a2.c], .agg #[.int .i64 e.k, .int .i64 e.ad, .int .i64 e.cf, .int .i64 e.q, .int .i64 e.f, .int .i64 e.l, .string e.t, .int .i64 e.tc, .int .i64 e.tr, .int .i64 e.tq, .int .i64 e.ta, .int .i64 e.tb, .slice b1.a b1.n b1.c, .int .i64 e.bf, .int .i64 e.bn, .int .i64 e.bo, .slice b2.a b2.n b2.c]] w fun x w' => x = .returned (.bool true) ∧ Below w.heap.size w w' := by
  have hn1 : (w.alloc (.cells #[.int .i64 e.k, .int .i64 e.ad, .int .i64 e.cf, .int .i64 e.q, .int .i64 e.f, .int .i64 e.l, .string e.t, .int .i64 e.tc, .int .i64 e.tr, .int .i64 e.tq, .int .i64 e.ta, .int .i64 e.tb, .slice a1.a a1.n a1.c, .int .i64 e.bf, .int .i64 e.bn, .int .i64 e.bo, .slice a2.a a2.n a2.c] 117)).heap.size = w.heap.size + 1 := by simp
  have LA : Hid (Bx ((w.alloc (.cells #[.int .i64 e.k, .int .i64 e.ad, .int .i64 e.cf, .int .i64 e.q, .int .i64 e.f, .int .i64 e.l, .string e.t, .int .i64 e.tc, .int .i64 e.tr, .int .i64 e.tq, .int .i64 e.ta, .int .i64 e.tb, .slice a1.a a1.n a1.c, .int .i64 e.bf, .int .i64 e.bn, .int .i64 e.bo, .slice a2.a a2.n a2.c] 117)).alloc (.cells #[.int .i64 e.k, .int .i64 e.ad, .int .i64 e.cf, .int .i64 e.q, .int .i64 e.f, .int .i64 e.l, .string e.t, .int .i64 e.tc, .int .i64 e.tr, .int .i64 e.tq, .int .i64 e.ta, .int .i64 e.tb, .slice b1.a b1.n b1.c, .int .i64 e.bf, .int .i64 e.bn, .int .i64 e.bo, .slice b2.a b2.n b2.c] 117)) w.heap.size 117 [.int .i64 e.k, .int .i64 e.ad, .int .i64 e.cf, .int .i64 e.q, .int .i64 e.f, .int .i64 e.l, .string e.t, .int .i64 e.tc, .int .i64 e.tr, .int .i64 e.tq, .int .i64 e.ta, .int .i64 e.tb, .slice a1.a a1.n a1.c, .int .i64 e.bf, .int .i64 e.bn, .int .i64 e.bo, .slice a2.a a2.n a2.c]) := by
    have h := Bx.new w 117 [.int .i64 e.k, .int .i64 e.ad, .int .i64 e.cf, .int .i64 e.q, .int .i64 e.f, .int .i64 e.l, .string e.t, .int .i64 e.tc, .int .i64 e.tr, .int .i64 e.tq, .int .i64 e.ta, .int .i64 e.tb, .slice a1.a a1.n a1.c, .int .i64 e.bf, .int .i64 e.bn, .int .i64 e.bo, .slice a2.a a2.n a2.c]
    exact (h).later ((Below.refl _ _).alloc (Nat.le_refl _) _)
  have LB : Hid (Bx ((w.alloc (.cells #[.int .i64 e.k, .int .i64 e.ad, .int .i64 e.cf, .int .i64 e.q, .int .i64 e.f, .int .i64 e.l, .string e.t, .int .i64 e.tc, .int .i64 e.tr, .int .i64 e.tq, .int .i64 e.ta, .int .i64 e.tb, .slice a1.a a1.n a1.c, .int .i64 e.bf, .int .i64 e.bn, .int .i64 e.bo, .slice a2.a a2.n a2.c] 117)).alloc (.cells #[.int .i64 e.k, .int .i64 e.ad, .int .i64 e.cf, .int .i64 e.q, .int .i64 e.f, .int .i64 e.l, .string e.t, .int .i64 e.tc, .int .i64 e.tr, .int .i64 e.tq, .int .i64 e.ta, .int .i64 e.tb, .slice b1.a b1.n b1.c, .int .i64 e.bf, .int .i64 e.bn, .int .i64 e.bo, .slice b2.a b2.n b2.c] 117)) (w.heap.size + 1) 117 [.int .i64 e.k, .int .i64 e.ad, .int .i64 e.cf, .int .i64 e.q, .int .i64 e.f, .int .i64 e.l, .string e.t, .int .i64 e.tc, .int .i64 e.tr, .int .i64 e.tq, .int .i64 e.ta, .int .i64 e.tb, .slice b1.a b1.n b1.c, .int .i64 e.bf, .int .i64 e.bn, .int .i64 e.bo, .slice b2.a b2.n b2.c]) := by
    have h := Bx.new (w.alloc (.cells #[.int .i64 e.k, .int .i64 e.ad, .int .i64 e.cf, .int .i64 e.q, .int .i64 e.f, .int .i64 e.l, .string e.t, .int .i64 e.tc, .int .i64 e.tr, .int .i64 e.tq, .int .i64 e.ta, .int .i64 e.tb, .slice a1.a a1.n a1.c, .int .i64 e.bf, .int .i64 e.bn, .int .i64 e.bo, .slice a2.a a2.n a2.c] 117)) 117 [.int .i64 e.k, .int .i64 e.ad, .int .i64 e.cf, .int .i64 e.q, .int .i64 e.f, .int .i64 e.l, .string e.t, .int .i64 e.tc, .int .i64 e.tr, .int .i64 e.tq, .int .i64 e.ta, .int .i64 e.tb, .slice b1.a b1.n b1.c, .int .i64 e.bf, .int .i64 e.bn, .int .i64 e.bo, .slice b2.a b2.n b2.c]
    rw [hn1] at h
    exact h
  have BW : Hid (Below w.heap.size w ((w.alloc (.cells #[.int .i64 e.k, .int .i64 e.ad, .int .i64 e.cf, .int .i64 e.q, .int .i64 e.f, .int .i64 e.l, .string e.t, .int .i64 e.tc, .int .i64 e.tr, .int .i64 e.tq, .int .i64 e.ta, .int .i64 e.tb, .slice a1.a a1.n a1.c, .int .i64 e.bf, .int .i64 e.bn, .int .i64 e.bo, .slice a2.a a2.n a2.c] 117)).alloc (.cells #[.int .i64 e.k, .int .i64 e.ad, .int .i64 e.cf, .int .i64 e.q, .int .i64 e.f, .int .i64 e.l, .string e.t, .int .i64 e.tc, .int .i64 e.tr, .int .i64 e.tq, .int .i64 e.ta, .int .i64 e.tb, .slice b1.a b1.n b1.c, .int .i64 e.bf, .int .i64 e.bn, .int .i64 e.bo, .slice b2.a b2.n b2.c] 117))) := (((Below.refl _ _).alloc (by simp) _).alloc (by simp; try omega) _)
  clear hn1
  have H1 : Hid (OwnI ((w.alloc (.cells #[.int .i64 e.k, .int .i64 e.ad, .int .i64 e.cf, .int .i64 e.q, .int .i64 e.f, .int .i64 e.l, .string e.t, .int .i64 e.tc, .int .i64 e.tr, .int .i64 e.tq, .int .i64 e.ta, .int .i64 e.tb, .slice a1.a a1.n a1.c, .int .i64 e.bf, .int .i64 e.bn, .int .i64 e.bo, .slice a2.a a2.n a2.c] 117)).alloc (.cells #[.int .i64 e.k, .int .i64 e.ad, .int .i64 e.cf, .int .i64 e.q, .int .i64 e.f, .int .i64 e.l, .string e.t, .int .i64 e.tc, .int .i64 e.tr, .int .i64 e.tq, .int .i64 e.ta, .int .i64 e.tb, .slice b1.a b1.n b1.c, .int .i64 e.bf, .int .i64 e.bn, .int .i64 e.bo, .slice b2.a b2.n b2.c] 117)) 0 a1.v e.ws) := OwnI.keep h1.out fun _ _ hk => BW.out.block _ hk
  have H2 : Hid (SlI ((w.alloc (.cells #[.int .i64 e.k, .int .i64 e.ad, .int .i64 e.cf, .int .i64 e.q, .int .i64 e.f, .int .i64 e.l, .string e.t, .int .i64 e.tc, .int .i64 e.tr, .int .i64 e.tq, .int .i64 e.ta, .int .i64 e.tb, .slice a1.a a1.n a1.c, .int .i64 e.bf, .int .i64 e.bn, .int .i64 e.bo, .slice a2.a a2.n a2.c] 117)).alloc (.cells #[.int .i64 e.k, .int .i64 e.ad, .int .i64 e.cf, .int .i64 e.q, .int .i64 e.f, .int .i64 e.l, .string e.t, .int .i64 e.tc, .int .i64 e.tr, .int .i64 e.tq, .int .i64 e.ta, .int .i64 e.tb, .slice b1.a b1.n b1.c, .int .i64 e.bf, .int .i64 e.bn, .int .i64 e.bo, .slice b2.a b2.n b2.c] 117)) 0 a2.v e.ts) := Sl.keep h2.out fun _ _ hk => BW.out.block _ hk
  have H3 : Hid (OwnI ((w.alloc (.cells #[.int .i64 e.k, .int .i64 e.ad, .int .i64 e.cf, .int .i64 e.q, .int .i64 e.f, .int .i64 e.l, .string e.t, .int .i64 e.tc, .int .i64 e.tr, .int .i64 e.tq, .int .i64 e.ta, .int .i64 e.tb, .slice a1.a a1.n a1.c, .int .i64 e.bf, .int .i64 e.bn, .int .i64 e.bo, .slice a2.a a2.n a2.c] 117)).alloc (.cells #[.int .i64 e.k, .int .i64 e.ad, .int .i64 e.cf, .int .i64 e.q, .int .i64 e.f, .int .i64 e.l, .string e.t, .int .i64 e.tc, .int .i64 e.tr, .int .i64 e.tq, .int .i64 e.ta, .int .i64 e.tb, .slice b1.a b1.n b1.c, .int .i64 e.bf, .int .i64 e.bn, .int .i64 e.bo, .slice b2.a b2.n b2.c] 117)) 0 b1.v e.ws) := OwnI.keep h3.out fun _ _ hk => BW.out.block _ hk
  have H4 : Hid (SlI ((w.alloc (.cells #[.int .i64 e.k, .int .i64 e.ad, .int .i64 e.cf, .int .i64 e.q, .int .i64 e.f, .int .i64 e.l, .string e.t, .int .i64 e.tc, .int .i64 e.tr, .int .i64 e.tq, .int .i64 e.ta, .int .i64 e.tb, .slice a1.a a1.n a1.c, .int .i64 e.bf, .int .i64 e.bn, .int .i64 e.bo, .slice a2.a a2.n a2.c] 117)).alloc (.cells #[.int .i64 e.k, .int .i64 e.ad, .int .i64 e.cf, .int .i64 e.q, .int .i64 e.f, .int .i64 e.l, .string e.t, .int .i64 e.tc, .int .i64 e.tr, .int .i64 e.tq, .int .i64 e.ta, .int .i64 e.tb, .slice b1.a b1.n b1.c, .int .i64 e.bf, .int .i64 e.bn, .int .i64 e.bo, .slice b2.a b2.n b2.c] 117)) 0 b2.v e.ts) := Sl.keep h4.out fun _ _ hk => BW.out.block _ hk
  clear h1 h2 h3 h4
  have dk : (e.k != e.k) = false := by simp
  have dad : (e.ad != e.ad) = false := by simp
  have dcf : (e.cf != e.cf) = false := by simp
  have a5 := LA.out.cell 0
  have b5 := LB.out.cell 0
  have a6 := LA.out.cell 1
  have b6 := LB.out.cell 1
  have a7 := LA.out.cell 2
  have b7 := LB.out.cell 2
  simp only [List.getElem?_cons_succ, List.getElem?_cons_zero] at a5 b5 a6 b6 a7 b7
  go_enter Try.func66, Try.ntmps66
  go_wp2_with (first | (refine wpList_ldG rfl 57 _ rfl w.heap.size 3 rfl 117 _ LA.out [.int .i64 e.q, .int .i64 e.f, .int .i64 e.l, .string e.t] rfl _ Try.underlying57 rfl Try.sizeI ?_) | (refine wpList_ldG rfl 57 _ rfl (w.heap.size + 1) 3 rfl 117 _ LB.out [.int .i64 e.q, .int .i64 e.f, .int .i64 e.l, .string e.t] rfl _ Try.underlying57 rfl Try.sizeI ?_))
  generalize ((w.alloc (.cells #[.int .i64 e.k, .int .i64 e.ad, .int .i64 e.cf, .int .i64 e.q, .int .i64 e.f, .int .i64 e.l, .string e.t, .int .i64 e.tc, .int .i64 e.tr, .int .i64 e.tq, .int .i64 e.ta, .int .i64 e.tb, .slice a1.a a1.n a1.c, .int .i64 e.bf, .int .i64 e.bn, .int .i64 e.bo, .slice a2.a a2.n a2.c] 117)).alloc (.cells #[.int .i64 e.k, .int .i64 e.ad, .int .i64 e.cf, .int .i64 e.q, .int .i64 e.f, .int .i64 e.l, .string e.t, .int .i64 e.tc, .int .i64 e.tr, .int .i64 e.tq, .int .i64 e.ta, .int .i64 e.tb, .slice b1.a b1.n b1.c, .int .i64 e.bf, .int .i64 e.bn, .int .i64 e.bo, .slice b2.a b2.n b2.c] 117)) = W at *
  clear a5 b5 a6 b6 a7 b7
  refine (eqItem_same e.q e.f e.l e.t _).mono ?_
  rintro e w1 ⟨rfl, b⟩
  have z_w1 : W.heap.size ≤ w1.heap.size := b.size
  have H1 : Hid (OwnI w1 0 (a1.v) (e.ws)) := H1.out.keep fun _ _ hk => (b).block _ hk
  have H3 : Hid (OwnI w1 0 (b1.v) (e.ws)) := H3.out.keep fun _ _ hk => (b).block _ hk
  have H2 : Hid (SlI w1 0 a2.v e.ts) := Sl.keep H2.out fun _ _ hk => (b).block _ hk
  have H4 : Hid (SlI w1 0 b2.v e.ts) := Sl.keep H4.out fun _ _ hk => (b).block _ hk
  have LA : Hid (Bx w1 w.heap.size 117 [.int .i64 e.k, .int .i64 e.ad, .int .i64 e.cf, .int .i64 e.q, .int .i64 e.f, .int .i64 e.l, .string e.t, .int .i64 e.tc, .int .i64 e.tr, .int .i64 e.tq, .int .i64 e.ta, .int .i64 e.tb, .slice a1.a a1.n a1.c, .int .i64 e.bf, .int .i64 e.bn, .int .i64 e.bo, .slice a2.a a2.n a2.c]) := LA.out.later b
  have LB : Hid (Bx w1 (w.heap.size + 1) 117 [.int .i64 e.k, .int .i64 e.ad, .int .i64 e.cf, .int .i64 e.q, .int .i64 e.f, .int .i64 e.l, .string e.t, .int .i64 e.tc, .int .i64 e.tr, .int .i64 e.tq, .int .i64 e.ta, .int .i64 e.tb, .slice b1.a b1.n b1.c, .int .i64 e.bf, .int .i64 e.bn, .int .i64 e.bo, .slice b2.a b2.n b2.c]) := LB.out.later b
  have BW : Hid (Below w.heap.size w w1) := bl_next BW.out b
  clear b
  go_wp2_with (first | (refine wpList_ldG rfl 72 _ rfl w.heap.size 7 rfl 117 _ LA.out [.int .i64 e.tc, .int .i64 e.tr, .int .i64 e.tq, .int .i64 e.ta, .int .i64 e.tb, .slice a1.a a1.n a1.c] rfl _ Try.underlying72 rfl Try.sizeT9 ?_) | (refine wpList_ldG rfl 72 _ rfl (w.heap.size + 1) 7 rfl 117 _ LB.out [.int .i64 e.tc, .int .i64 e.tr, .int .i64 e.tq, .int .i64 e.ta, .int .i64 e.tb, .slice b1.a b1.n b1.c] rfl _ Try.underlying72 rfl Try.sizeT9 ?_))
  refine (eqTok_same e.tc e.tr e.tq e.ta e.tb a1.v b1.v e.ws 0 0 _ H1 H3 hs.out.2.1).mono ?_
  rintro e w2 ⟨rfl, b⟩
  have z_w2 : w1.heap.size ≤ w2.heap.size := b.size
  have H1 : Hid (OwnI w2 0 (a1.v) (e.ws)) := H1.out.keep fun _ _ hk => (b).block _ hk
  have H3 : Hid (OwnI w2 0 (b1.v) (e.ws)) := H3.out.keep fun _ _ hk => (b).block _ hk
  have H2 : Hid (SlI w2 0 a2.v e.ts) := Sl.keep H2.out fun _ _ hk => (b).block _ hk
  have H4 : Hid (SlI w2 0 b2.v e.ts) := Sl.keep H4.out fun _ _ hk => (b).block _ hk
  have LA : Hid (Bx w2 w.heap.size 117 [.int .i64 e.k, .int .i64 e.ad, .int .i64 e.cf, .int .i64 e.q, .int .i64 e.f, .int .i64 e.l, .string e.t, .int .i64 e.tc, .int .i64 e.tr, .int .i64 e.tq, .int .i64 e.ta, .int .i64 e.tb, .slice a1.a a1.n a1.c, .int .i64 e.bf, .int .i64 e.bn, .int .i64 e.bo, .slice a2.a a2.n a2.c]) := LA.out.later b
  have LB : Hid (Bx w2 (w.heap.size + 1) 117 [.int .i64 e.k, .int .i64 e.ad, .int .i64 e.cf, .int .i64 e.q, .int .i64 e.f, .int .i64 e.l, .string e.t, .int .i64 e.tc, .int .i64 e.tr, .int .i64 e.tq, .int .i64 e.ta, .int .i64 e.tb, .slice b1.a b1.n b1.c, .int .i64 e.bf, .int .i64 e.bn, .int .i64 e.bo, .slice b2.a b2.n b2.c]) := LB.out.later b
  have BW : Hid (Below w.heap.size w w2) := bl_next BW.out b
  clear b
  go_wp2_with (first | (refine wpList_ldG rfl 115 _ rfl w.heap.size 13 rfl 117 _ LA.out [.int .i64 e.bf, .int .i64 e.bn, .int .i64 e.bo, .slice a2.a a2.n a2.c] rfl _ Try.underlying115 rfl Try.sizeBu ?_) | (refine wpList_ldG rfl 115 _ rfl (w.heap.size + 1) 13 rfl 117 _ LB.out [.int .i64 e.bf, .int .i64 e.bn, .int .i64 e.bo, .slice b2.a b2.n b2.c] rfl _ Try.underlying115 rfl Try.sizeBu ?_))
  refine (eqBundle_same e.bf e.bn e.bo a2 b2 e.ts 0 0 _ H2 H4 hs.out.2.2).mono ?_
  rintro e w3 ⟨rfl, b⟩
  have z_w3 : w2.heap.size ≤ w3.heap.size := b.size
  have H1 : Hid (OwnI w3 0 (a1.v) (e.ws)) := H1.out.keep fun _ _ hk => (b).block _ hk
  have H3 : Hid (OwnI w3 0 (b1.v) (e.ws)) := H3.out.keep fun _ _ hk => (b).block _ hk
  have H2 : Hid (SlI w3 0 a2.v e.ts) := Sl.keep H2.out fun _ _ hk => (b).block _ hk
  have H4 : Hid (SlI w3 0 b2.v e.ts) := Sl.keep H4.out fun _ _ hk => (b).block _ hk
  have LA : Hid (Bx w3 w.heap.size 117 [.int .i64 e.k, .int .i64 e.ad, .int .i64 e.cf, .int .i64 e.q, .int .i64 e.f, .int .i64 e.l, .string e.t, .int .i64 e.tc, .int .i64 e.tr, .int .i64 e.tq, .int .i64 e.ta, .int .i64 e.tb, .slice a1.a a1.n a1.c, .int .i64 e.bf, .int .i64 e.bn, .int .i64 e.bo, .slice a2.a a2.n a2.c]) := LA.out.later b
  have LB : Hid (Bx w3 (w.heap.size + 1) 117 [.int .i64 e.k, .int .i64 e.ad, .int .i64 e.cf, .int .i64 e.q, .int .i64 e.f, .int .i64 e.l, .string e.t, .int .i64 e.tc, .int .i64 e.tr, .int .i64 e.tq, .int .i64 e.ta, .int .i64 e.tb, .slice b1.a b1.n b1.c, .int .i64 e.bf, .int .i64 e.bn, .int .i64 e.bo, .slice b2.a b2.n b2.c]) := LB.out.later b
  have BW : Hid (Below w.heap.size w w3) := bl_next BW.out b
  clear b
  go_wp2_with fail
  go_ret
  exact ⟨rfl, BW.out⟩
end Go.Proofs.Ytdodeillifoibaa


/- Lists of letters, held against each other. Written by gen_gs.py. -/
namespace Go.Proofs.Ytdodeillifoibaa
open Go.RowKit Pl
set_option linter.unusedVariables false
set_option linter.unusedSimpArgs false

set_option maxRecDepth 100000 in
set_option maxHeartbeats 4000000 in
theorem eqletters_sp (ao bo : Option Addr) (len c1 c2 : Nat) (r1 r2 : Nat → List Value) (w : World) (h1 : Hid (∀ j, j < len → ∃ g off, ao = some ⟨g, off, none⟩ ∧ g < w.heap.size ∧ (r1 j).length = 17 ∧ w.rangeAt g (off + j * 17) (r1 j))) (h2 : Hid (∀ j, j < len → ∃ g off, bo = some ⟨g, off, none⟩ ∧ g < w.heap.size ∧ (r2 j).length = 17 ∧ w.rangeAt g (off + j * 17) (r2 j))) (hE : Hid (∀ j, j < len → ∀ W, Below w.heap.size w W → Calls Try.prog 66 #[.agg (r1 j).toArray, .agg (r2 j).toArray] W fun e w' => e = .returned (.bool true) ∧ Below W.heap.size W w')) (hl : len ≤ 39999990) :
    Calls Try.prog 44 #[.slice ao len c1, .slice bo len c2] w fun e w' => e = .returned (.bool true) ∧ Below w.heap.size w w' := by
  go_enter Try.func44, Try.ntmps44
  go_wp2_with fail
  go_loopw [5] (fun i wr => ∃ (j : Nat), j ≤ len ∧ i = .int .i64 (j : Int) ∧ Hid (Below w.heap.size w wr)) (fun i _ => len - (intOf i).toNat)
  case atStart => exact ⟨0, by omega, rfl, Below.refl _ _⟩
  case round =>
    obtain ⟨j, hj, rfl, HB⟩ := hrel
    by_cases hlt : j < len
    · obtain ⟨g1, o1, rfl, l1, n1, x1⟩ := h1.out j hlt
      obtain ⟨g2, o2, rfl, l2, n2, x2⟩ := h2.out j hlt
      have X1 : Hid (w.rangeAt g1 (o1 + j * 17) (r1 j)) := x1
      have X2 : Hid (w.rangeAt g2 (o2 + j * 17) (r2 j)) := x2
      have N1 : Hid ((Try.prog.info? 117).map (·.size) = some (r1 j).length) := (by rw [n1]; exact Try.sizeLt9 : _ = _)
      have N2 : Hid ((Try.prog.info? 117).map (·.size) = some (r2 j).length) := (by rw [n2]; exact Try.sizeLt9 : _ = _)
      clear x1 x2 n1 n2
      have EJ : Hid _ := hE.out j hlt
      have i0 : (0 : Int) ≤ (j : Int) := by omega
      have i1 : (j : Int) < (len : Int) := by omega
      go_wp2_with fail
      have c : Below w.heap.size w wr.drew := HB.out.drew
      refine wp_region_held_drew (S := fun w' => Below w.heap.size w w') (by kernel_rfl) c (fun hHeld => ?_)
      refine wpAnyH_take (i := 0) (v := ?v0b1) rfl (by kernel_rfl) (by kernel_rfl) (by kernel_rfl) (fun _ _ _ h => h) (Or.inl ⟨by rfl, ?hy0b1⟩) (by assumption) ?_
      case hy0b1 => (intro w hSw; (try dsimp only at hSw); simp only [List.getElem_toArray, List.getElem_cons_zero, List.getElem_cons_succ]; go_simp; try with_reducible rfl)
      try simp only [Act.put, List.getElem_toArray, List.getElem_cons_zero, List.getElem_cons_succ, List.setIfInBounds_toArray, List.set_cons_zero, List.set_cons_succ]
      refine wpAnyH_take (i := 1) (v := ?v1b2) rfl (by kernel_rfl) (by kernel_rfl) (by kernel_rfl) (fun _ _ _ h => h) (Or.inl ⟨by rfl, ?hy1b2⟩) (by assumption) ?_
      case hy1b2 => (intro w hSw; (try dsimp only at hSw); simp only [List.getElem_toArray, List.getElem_cons_zero, List.getElem_cons_succ]; go_simp; try with_reducible rfl)
      try simp only [Act.put, List.getElem_toArray, List.getElem_cons_zero, List.getElem_cons_succ, List.setIfInBounds_toArray, List.set_cons_zero, List.set_cons_succ]
      refine wpAnyH_take (i := 2) (v := ?v2b3) rfl (by kernel_rfl) (by kernel_rfl) (by kernel_rfl) (fun _ _ _ h => h) (Or.inl ⟨by rfl, ?hy2b3⟩) (by assumption) ?_
      case hy2b3 => (intro w hSw; (try dsimp only at hSw); simp only [List.getElem_toArray, List.getElem_cons_zero, List.getElem_cons_succ]; go_simp; try with_reducible rfl)
      try simp only [Act.put, List.getElem_toArray, List.getElem_cons_zero, List.getElem_cons_succ, List.setIfInBounds_toArray, List.set_cons_zero, List.set_cons_succ]
      refine wpAnyH_take (i := 3) (v := _) rfl (by kernel_rfl) (by kernel_rfl) (by kernel_rfl) (fun _ _ _ h => h) (ldN_yield (by rfl) 117 _ rfl g1 (o1 + j * 17) (by rfl) (r1 j) (fun w hS => range_later X1.out l1 hS) _ Try.underlying117 rfl N1.out) (by assumption) ?_
      try simp only [Act.put, List.setIfInBounds_toArray, List.set_cons_zero, List.set_cons_succ]
      refine wpAnyH_take (i := 4) (v := ?v4b5) rfl (by kernel_rfl) (by kernel_rfl) (by kernel_rfl) (fun _ _ _ h => h) (Or.inl ⟨by rfl, ?hy4b5⟩) (by assumption) ?_
      case hy4b5 => (intro w hSw; (try dsimp only at hSw); simp only [List.getElem_toArray, List.getElem_cons_zero, List.getElem_cons_succ]; go_simp; try with_reducible rfl)
      try simp only [Act.put, List.getElem_toArray, List.getElem_cons_zero, List.getElem_cons_succ, List.setIfInBounds_toArray, List.set_cons_zero, List.set_cons_succ]
      refine wpAnyH_take (i := 5) (v := ?v5b6) rfl (by kernel_rfl) (by kernel_rfl) (by kernel_rfl) (fun _ _ _ h => h) (Or.inl ⟨by rfl, ?hy5b6⟩) (by assumption) ?_
      case hy5b6 => (intro w hSw; (try dsimp only at hSw); simp only [List.getElem_toArray, List.getElem_cons_zero, List.getElem_cons_succ]; go_simp; try with_reducible rfl)
      try simp only [Act.put, List.getElem_toArray, List.getElem_cons_zero, List.getElem_cons_succ, List.setIfInBounds_toArray, List.set_cons_zero, List.set_cons_succ]
      refine wpAnyH_take (i := 6) (v := ?v6b7) rfl (by kernel_rfl) (by kernel_rfl) (by kernel_rfl) (fun _ _ _ h => h) (Or.inl ⟨by rfl, ?hy6b7⟩) (by assumption) ?_
      case hy6b7 => (intro w hSw; (try dsimp only at hSw); simp only [List.getElem_toArray, List.getElem_cons_zero, List.getElem_cons_succ]; go_simp; try with_reducible rfl)
      try simp only [Act.put, List.getElem_toArray, List.getElem_cons_zero, List.getElem_cons_succ, List.setIfInBounds_toArray, List.set_cons_zero, List.set_cons_succ]
      refine wpAnyH_take (i := 7) (v := _) rfl (by kernel_rfl) (by kernel_rfl) (by kernel_rfl) (fun _ _ _ h => h) (ldN_yield (by rfl) 117 _ rfl g2 (o2 + j * 17) (by rfl) (r2 j) (fun w hS => range_later X2.out l2 hS) _ Try.underlying117 rfl N2.out) (by assumption) ?_
      try simp only [Act.put, List.setIfInBounds_toArray, List.set_cons_zero, List.set_cons_succ]
      refine wpAnyH_ready (rs := [8]) (by kernel_rfl) (by simp) ?_
      refine AllReadyH.cons (i := 8) rfl (fun K hK => ?_) AllReadyH.nil
      rw [if_pos (by rfl)]
      simp only [List.getElem_toArray, List.getElem_cons_zero, List.getElem_cons_succ]
      go_simp
      refine (EJ.out _ c).mono ?_
      rintro e y1 ⟨rfl, d1⟩
      have c1 : Below w.heap.size w y1 := bl_next c d1
      refine hK.out _ _ (c1) (fun hHeld => ?_)
      clear hK K
      try simp only [Act.put, List.getElem_toArray, List.getElem_cons_zero, List.getElem_cons_succ, List.setIfInBounds_toArray, List.set_cons_zero, List.set_cons_succ]
      clear d1
      refine wpAnyH_take (i := 9) (v := ?v9b9) rfl (by kernel_rfl) (by kernel_rfl) (by kernel_rfl) (fun _ _ _ h => h) (Or.inl ⟨by rfl, ?hy9b9⟩) (by assumption) ?_
      case hy9b9 => (intro w hSw; (try dsimp only at hSw); simp only [List.getElem_toArray, List.getElem_cons_zero, List.getElem_cons_succ]; go_simp; try with_reducible rfl)
      try simp only [Act.put, List.getElem_toArray, List.getElem_cons_zero, List.getElem_cons_succ, List.setIfInBounds_toArray, List.set_cons_zero, List.set_cons_succ]
      refine wpAnyH_done (by kernel_rfl) ?_ _
      have HB1 : Hid (Below w.heap.size w y1) := c1
      clear c c1 hHeld HB EJ X1 X2
      go_wp2_with fail
      go_roundw
      case rel => exact ⟨j + 1, by omega, by go_num, HB1⟩
      case measure => simp [intOf]; omega
    · obtain rfl : j = len := by omega
      go_wp2_with fail
      go_ret
      exact ⟨rfl, HB.out⟩
end Go.Proofs.Ytdodeillifoibaa


/- Lists of daemons, held against each other. Written by gen_gs.py. -/
namespace Go.Proofs.Ytdodeillifoibaa
open Go.RowKit Pl
set_option linter.unusedVariables false
set_option linter.unusedSimpArgs false

set_option maxRecDepth 100000 in
set_option maxHeartbeats 4000000 in
theorem eqdaemons_sp (ao bo : Option Addr) (len c1 c2 : Nat) (r1 r2 : Nat → List Value) (w : World) (h1 : Hid (∀ j, j < len → ∃ g off, ao = some ⟨g, off, none⟩ ∧ g < w.heap.size ∧ (r1 j).length = 24 ∧ w.rangeAt g (off + j * 24) (r1 j))) (h2 : Hid (∀ j, j < len → ∃ g off, bo = some ⟨g, off, none⟩ ∧ g < w.heap.size ∧ (r2 j).length = 24 ∧ w.rangeAt g (off + j * 24) (r2 j))) (hE : Hid (∀ j, j < len → ∀ W, Below w.heap.size w W → Calls Try.prog 65 #[.agg (r1 j).toArray, .agg (r2 j).toArray] W fun e w' => e = .returned (.bool true) ∧ Below W.heap.size W w')) (hl : len ≤ 39999990) :
    Calls Try.prog 43 #[.slice ao len c1, .slice bo len c2] w fun e w' => e = .returned (.bool true) ∧ Below w.heap.size w w' := by
  go_enter Try.func43, Try.ntmps43
  go_wp2_with fail
  go_loopw [5] (fun i wr => ∃ (j : Nat), j ≤ len ∧ i = .int .i64 (j : Int) ∧ Hid (Below w.heap.size w wr)) (fun i _ => len - (intOf i).toNat)
  case atStart => exact ⟨0, by omega, rfl, Below.refl _ _⟩
  case round =>
    obtain ⟨j, hj, rfl, HB⟩ := hrel
    by_cases hlt : j < len
    · obtain ⟨g1, o1, rfl, l1, n1, x1⟩ := h1.out j hlt
      obtain ⟨g2, o2, rfl, l2, n2, x2⟩ := h2.out j hlt
      have X1 : Hid (w.rangeAt g1 (o1 + j * 24) (r1 j)) := x1
      have X2 : Hid (w.rangeAt g2 (o2 + j * 24) (r2 j)) := x2
      have N1 : Hid ((Try.prog.info? 77).map (·.size) = some (r1 j).length) := (by rw [n1]; exact Try.sizeDa : _ = _)
      have N2 : Hid ((Try.prog.info? 77).map (·.size) = some (r2 j).length) := (by rw [n2]; exact Try.sizeDa : _ = _)
      clear x1 x2 n1 n2
      have EJ : Hid _ := hE.out j hlt
      have i0 : (0 : Int) ≤ (j : Int) := by omega
      have i1 : (j : Int) < (len : Int) := by omega
      go_wp2_with fail
      have c : Below w.heap.size w wr.drew := HB.out.drew
      refine wp_region_held_drew (S := fun w' => Below w.heap.size w w') (by kernel_rfl) c (fun hHeld => ?_)
      refine wpAnyH_take (i := 0) (v := ?v0b1) rfl (by kernel_rfl) (by kernel_rfl) (by kernel_rfl) (fun _ _ _ h => h) (Or.inl ⟨by rfl, ?hy0b1⟩) (by assumption) ?_
      case hy0b1 => (intro w hSw; (try dsimp only at hSw); simp only [List.getElem_toArray, List.getElem_cons_zero, List.getElem_cons_succ]; go_simp; try with_reducible rfl)
      try simp only [Act.put, List.getElem_toArray, List.getElem_cons_zero, List.getElem_cons_succ, List.setIfInBounds_toArray, List.set_cons_zero, List.set_cons_succ]
      refine wpAnyH_take (i := 1) (v := ?v1b2) rfl (by kernel_rfl) (by kernel_rfl) (by kernel_rfl) (fun _ _ _ h => h) (Or.inl ⟨by rfl, ?hy1b2⟩) (by assumption) ?_
      case hy1b2 => (intro w hSw; (try dsimp only at hSw); simp only [List.getElem_toArray, List.getElem_cons_zero, List.getElem_cons_succ]; go_simp; try with_reducible rfl)
      try simp only [Act.put, List.getElem_toArray, List.getElem_cons_zero, List.getElem_cons_succ, List.setIfInBounds_toArray, List.set_cons_zero, List.set_cons_succ]
      refine wpAnyH_take (i := 2) (v := ?v2b3) rfl (by kernel_rfl) (by kernel_rfl) (by kernel_rfl) (fun _ _ _ h => h) (Or.inl ⟨by rfl, ?hy2b3⟩) (by assumption) ?_
      case hy2b3 => (intro w hSw; (try dsimp only at hSw); simp only [List.getElem_toArray, List.getElem_cons_zero, List.getElem_cons_succ]; go_simp; try with_reducible rfl)
      try simp only [Act.put, List.getElem_toArray, List.getElem_cons_zero, List.getElem_cons_succ, List.setIfInBounds_toArray, List.set_cons_zero, List.set_cons_succ]
      refine wpAnyH_take (i := 3) (v := _) rfl (by kernel_rfl) (by kernel_rfl) (by kernel_rfl) (fun _ _ _ h => h) (ldN_yield (by rfl) 77 _ rfl g1 (o1 + j * 24) (by rfl) (r1 j) (fun w hS => range_later X1.out l1 hS) _ Try.underlying77 rfl N1.out) (by assumption) ?_
      try simp only [Act.put, List.setIfInBounds_toArray, List.set_cons_zero, List.set_cons_succ]
      refine wpAnyH_take (i := 4) (v := ?v4b5) rfl (by kernel_rfl) (by kernel_rfl) (by kernel_rfl) (fun _ _ _ h => h) (Or.inl ⟨by rfl, ?hy4b5⟩) (by assumption) ?_
      case hy4b5 => (intro w hSw; (try dsimp only at hSw); simp only [List.getElem_toArray, List.getElem_cons_zero, List.getElem_cons_succ]; go_simp; try with_reducible rfl)
      try simp only [Act.put, List.getElem_toArray, List.getElem_cons_zero, List.getElem_cons_succ, List.setIfInBounds_toArray, List.set_cons_zero, List.set_cons_succ]
      refine wpAnyH_take (i := 5) (v := ?v5b6) rfl (by kernel_rfl) (by kernel_rfl) (by kernel_rfl) (fun _ _ _ h => h) (Or.inl ⟨by rfl, ?hy5b6⟩) (by assumption) ?_
      case hy5b6 => (intro w hSw; (try dsimp only at hSw); simp only [List.getElem_toArray, List.getElem_cons_zero, List.getElem_cons_succ]; go_simp; try with_reducible rfl)
      try simp only [Act.put, List.getElem_toArray, List.getElem_cons_zero, List.getElem_cons_succ, List.setIfInBounds_toArray, List.set_cons_zero, List.set_cons_succ]
      refine wpAnyH_take (i := 6) (v := ?v6b7) rfl (by kernel_rfl) (by kernel_rfl) (by kernel_rfl) (fun _ _ _ h => h) (Or.inl ⟨by rfl, ?hy6b7⟩) (by assumption) ?_
      case hy6b7 => (intro w hSw; (try dsimp only at hSw); simp only [List.getElem_toArray, List.getElem_cons_zero, List.getElem_cons_succ]; go_simp; try with_reducible rfl)
      try simp only [Act.put, List.getElem_toArray, List.getElem_cons_zero, List.getElem_cons_succ, List.setIfInBounds_toArray, List.set_cons_zero, List.set_cons_succ]
      refine wpAnyH_take (i := 7) (v := _) rfl (by kernel_rfl) (by kernel_rfl) (by kernel_rfl) (fun _ _ _ h => h) (ldN_yield (by rfl) 77 _ rfl g2 (o2 + j * 24) (by rfl) (r2 j) (fun w hS => range_later X2.out l2 hS) _ Try.underlying77 rfl N2.out) (by assumption) ?_
      try simp only [Act.put, List.setIfInBounds_toArray, List.set_cons_zero, List.set_cons_succ]
      refine wpAnyH_ready (rs := [8]) (by kernel_rfl) (by simp) ?_
      refine AllReadyH.cons (i := 8) rfl (fun K hK => ?_) AllReadyH.nil
      rw [if_pos (by rfl)]
      simp only [List.getElem_toArray, List.getElem_cons_zero, List.getElem_cons_succ]
      go_simp
      refine (EJ.out _ c).mono ?_
      rintro e y1 ⟨rfl, d1⟩
      have c1 : Below w.heap.size w y1 := bl_next c d1
      refine hK.out _ _ (c1) (fun hHeld => ?_)
      clear hK K
      try simp only [Act.put, List.getElem_toArray, List.getElem_cons_zero, List.getElem_cons_succ, List.setIfInBounds_toArray, List.set_cons_zero, List.set_cons_succ]
      clear d1
      refine wpAnyH_take (i := 9) (v := ?v9b9) rfl (by kernel_rfl) (by kernel_rfl) (by kernel_rfl) (fun _ _ _ h => h) (Or.inl ⟨by rfl, ?hy9b9⟩) (by assumption) ?_
      case hy9b9 => (intro w hSw; (try dsimp only at hSw); simp only [List.getElem_toArray, List.getElem_cons_zero, List.getElem_cons_succ]; go_simp; try with_reducible rfl)
      try simp only [Act.put, List.getElem_toArray, List.getElem_cons_zero, List.getElem_cons_succ, List.setIfInBounds_toArray, List.set_cons_zero, List.set_cons_succ]
      refine wpAnyH_done (by kernel_rfl) ?_ _
      have HB1 : Hid (Below w.heap.size w y1) := c1
      clear c c1 hHeld HB EJ X1 X2
      go_wp2_with fail
      go_roundw
      case rel => exact ⟨j + 1, by omega, by go_num, HB1⟩
      case measure => simp [intOf]; omega
    · obtain rfl : j = len := by omega
      go_wp2_with fail
      go_ret
      exact ⟨rfl, HB.out⟩
end Go.Proofs.Ytdodeillifoibaa


/- Letters measured and copied; lists of them. Written by gen_sw.py. -/
namespace Go.Proofs.Ytdodeillifoibaa
open Go.RowKit Pl
set_option linter.unusedVariables false
set_option linter.unusedSimpArgs false

theorem Try.sizeLLt : (Try.prog.info? 112).map (·.size) = some 17 := by kernel_rfl
theorem Try.sizeLts : (Try.prog.info? 42).map (·.size) = some 1 := by kernel_rfl
theorem Try.sizeLTk : (Try.prog.info? 102).map (·.size) = some 6 := by kernel_rfl
def Lt.sz (e : Lt) : Nat := e.t.size + e.ws.length + e.ts.length
def Lt.Up (e : Lt) : Prop := True
set_option maxRecDepth 100000 in
set_option maxHeartbeats 4000000 in
theorem szLetter_left (e : Lt) (L : Nat) (w : World) (h : Hid (e.R w)) (hl : Hid e.L) (hL : L ≤ 1048576) :
    Calls Try.prog 60 #[.agg #[.int .i64 e.k, .int .i64 e.ad, .int .i64 e.cf, .int .i64 e.q, .int .i64 e.f, .int .i64 e.l, .string e.t, .int .i64 e.tc, .int .i64 e.tr, .int .i64 e.tq, .int .i64 e.ta, .int .i64 e.tb, .slice e.sw.a e.sw.n e.sw.c, .int .i64 e.bf, .int .i64 e.bn, .int .i64 e.bo, .slice e.sb.a e.sb.n e.sb.c], .int .i64 L] w fun x w' => (x = .returned (.int .i64 (-1)) ∨ ∃ r : Nat, x = .returned (.int .i64 r) ∧ r + e.sz ≤ L) ∧ Below w.heap.size w w' := by
  have LA : Hid (Bx (w.alloc (.cells #[.int .i64 e.k, .int .i64 e.ad, .int .i64 e.cf, .int .i64 e.q, .int .i64 e.f, .int .i64 e.l, .string e.t, .int .i64 e.tc, .int .i64 e.tr, .int .i64 e.tq, .int .i64 e.ta, .int .i64 e.tb, .slice e.sw.a e.sw.n e.sw.c, .int .i64 e.bf, .int .i64 e.bn, .int .i64 e.bo, .slice e.sb.a e.sb.n e.sb.c] 112)) w.heap.size 112 [.int .i64 e.k, .int .i64 e.ad, .int .i64 e.cf, .int .i64 e.q, .int .i64 e.f, .int .i64 e.l, .string e.t, .int .i64 e.tc, .int .i64 e.tr, .int .i64 e.tq, .int .i64 e.ta, .int .i64 e.tb, .slice e.sw.a e.sw.n e.sw.c, .int .i64 e.bf, .int .i64 e.bn, .int .i64 e.bo, .slice e.sb.a e.sb.n e.sb.c]) := by
    have h := Bx.new w 112 [.int .i64 e.k, .int .i64 e.ad, .int .i64 e.cf, .int .i64 e.q, .int .i64 e.f, .int .i64 e.l, .string e.t, .int .i64 e.tc, .int .i64 e.tr, .int .i64 e.tq, .int .i64 e.ta, .int .i64 e.tb, .slice e.sw.a e.sw.n e.sw.c, .int .i64 e.bf, .int .i64 e.bn, .int .i64 e.bo, .slice e.sb.a e.sb.n e.sb.c]
    exact h
  have BW : Hid (Below w.heap.size w (w.alloc (.cells #[.int .i64 e.k, .int .i64 e.ad, .int .i64 e.cf, .int .i64 e.q, .int .i64 e.f, .int .i64 e.l, .string e.t, .int .i64 e.tc, .int .i64 e.tr, .int .i64 e.tq, .int .i64 e.ta, .int .i64 e.tb, .slice e.sw.a e.sw.n e.sw.c, .int .i64 e.bf, .int .i64 e.bn, .int .i64 e.bo, .slice e.sb.a e.sb.n e.sb.c] 112))) := ((Below.refl _ _).alloc (by simp) _)
  have HR : Hid (e.R (w.alloc (.cells #[.int .i64 e.k, .int .i64 e.ad, .int .i64 e.cf, .int .i64 e.q, .int .i64 e.f, .int .i64 e.l, .string e.t, .int .i64 e.tc, .int .i64 e.tr, .int .i64 e.tq, .int .i64 e.ta, .int .i64 e.tb, .slice e.sw.a e.sw.n e.sw.c, .int .i64 e.bf, .int .i64 e.bn, .int .i64 e.bo, .slice e.sb.a e.sb.n e.sb.c] 112))) := h.out.stays BW.out
  have HJ : Hid (e.sw.n = e.ws.length) := h.out.1.len
  have hj : e.sw.n ≤ 9223372036854775807 := by have := hl.out.2.1; have := HJ.out; omega
  clear h
  go_enter Try.func60, Try.ntmps60
  go_wp2_with (first | (refine wpList_ldG rfl 53 _ rfl w.heap.size 3 rfl 112 _ LA.out [.int .i64 e.q, .int .i64 e.f, .int .i64 e.l, .string e.t] rfl _ Try.underlying53 rfl Try.sizeLI ?_))
  generalize (w.alloc (.cells #[.int .i64 e.k, .int .i64 e.ad, .int .i64 e.cf, .int .i64 e.q, .int .i64 e.f, .int .i64 e.l, .string e.t, .int .i64 e.tc, .int .i64 e.tr, .int .i64 e.tq, .int .i64 e.ta, .int .i64 e.tb, .slice e.sw.a e.sw.n e.sw.c, .int .i64 e.bf, .int .i64 e.bn, .int .i64 e.bo, .slice e.sb.a e.sb.n e.sb.c] 112)) = W at *
  refine (szItem_left e.q e.f e.l e.t L _ hL hl.out.1).mono ?_
  rintro x w1 ⟨rfl | ⟨z1, rfl, hz1⟩, b⟩
  · go_wp2_with fail
    go_ret
    exact ⟨.inl rfl, bl_next BW.out b⟩
  have HZ1 : Hid (z1 + e.t.size = L) := hz1
  have hzl1 : z1 ≤ 1048576 := by omega
  have hd1 : decide ((z1 : Int) < 0) = false := by simp
  have LA : Hid (Bx w1 w.heap.size 112 [.int .i64 e.k, .int .i64 e.ad, .int .i64 e.cf, .int .i64 e.q, .int .i64 e.f, .int .i64 e.l, .string e.t, .int .i64 e.tc, .int .i64 e.tr, .int .i64 e.tq, .int .i64 e.ta, .int .i64 e.tb, .slice e.sw.a e.sw.n e.sw.c, .int .i64 e.bf, .int .i64 e.bn, .int .i64 e.bo, .slice e.sb.a e.sb.n e.sb.c]) := LA.out.later b
  have BW : Hid (Below w.heap.size w w1) := bl_next BW.out b
  have HR : Hid (Lt.R w1 e) := HR.out.stays b
  clear b hz1
  go_wp2_with (first | (refine wpList_ldG rfl 102 _ rfl w.heap.size 7 rfl 112 _ LA.out [.int .i64 e.tc, .int .i64 e.tr, .int .i64 e.tq, .int .i64 e.ta, .int .i64 e.tb, .slice e.sw.a e.sw.n e.sw.c] rfl _ Try.underlying102 rfl Try.sizeLTk ?_))
  refine (szTok_left e.tc e.tr e.tq e.ta e.tb e.sw.a e.sw.n e.sw.c z1 _ hzl1 hj).mono ?_
  rintro x w2 ⟨rfl | ⟨z2, rfl, hz2⟩, b⟩
  · go_wp2_with fail
    go_ret
    exact ⟨.inl rfl, bl_next BW.out b⟩
  have HZ2 : Hid (z2 + e.sw.n = z1) := hz2
  have hzl2 : z2 ≤ 1048576 := by omega
  have hd2 : decide ((z2 : Int) < 0) = false := by simp
  have LA : Hid (Bx w2 w.heap.size 112 [.int .i64 e.k, .int .i64 e.ad, .int .i64 e.cf, .int .i64 e.q, .int .i64 e.f, .int .i64 e.l, .string e.t, .int .i64 e.tc, .int .i64 e.tr, .int .i64 e.tq, .int .i64 e.ta, .int .i64 e.tb, .slice e.sw.a e.sw.n e.sw.c, .int .i64 e.bf, .int .i64 e.bn, .int .i64 e.bo, .slice e.sb.a e.sb.n e.sb.c]) := LA.out.later b
  have BW : Hid (Below w.heap.size w w2) := bl_next BW.out b
  have HR : Hid (Lt.R w2 e) := HR.out.stays b
  clear b hz2
  go_wp2_with (first | (refine wpList_ldG rfl 110 _ rfl w.heap.size 13 rfl 112 _ LA.out [.int .i64 e.bf, .int .i64 e.bn, .int .i64 e.bo, .slice e.sb.a e.sb.n e.sb.c] rfl _ Try.underlying110 rfl Try.sizeLBu ?_))
  refine (szBu_any ⟨e.bf, e.bn, e.bo, e.ts, e.sb⟩ z2 _ (show Hid (RSt w2 e.sb e.ts) from HR.out.2) (show Hid (e.ts.length ≤ 9223372036854775807 ∧ ∀ x ∈ e.ts, x.2.2.2.size ≤ 9223372036854775807) from ⟨hl.out.2.2.1, hl.out.2.2.2⟩) hzl2).mono ?_
  rintro x w3 ⟨rfl | ⟨z3, rfl, hz3⟩, b⟩
  · go_wp2_with fail
    go_ret
    exact ⟨.inl rfl, bl_next BW.out b⟩
  have HZ3 : Hid (z3 + e.ts.length ≤ z2) := hz3
  have hd3 : decide ((z3 : Int) < 0) = false := by simp
  have LA : Hid (Bx w3 w.heap.size 112 [.int .i64 e.k, .int .i64 e.ad, .int .i64 e.cf, .int .i64 e.q, .int .i64 e.f, .int .i64 e.l, .string e.t, .int .i64 e.tc, .int .i64 e.tr, .int .i64 e.tq, .int .i64 e.ta, .int .i64 e.tb, .slice e.sw.a e.sw.n e.sw.c, .int .i64 e.bf, .int .i64 e.bn, .int .i64 e.bo, .slice e.sb.a e.sb.n e.sb.c]) := LA.out.later b
  have BW : Hid (Below w.heap.size w w3) := bl_next BW.out b
  have HR : Hid (Lt.R w3 e) := HR.out.stays b
  clear b hz3
  go_wp2_with fail
  go_ret
  exact ⟨.inr ⟨z3, rfl, by have := HZ1.out; have := HZ2.out; have := HZ3.out; have := HJ.out; unfold Lt.sz; omega⟩, BW.out⟩
set_option maxRecDepth 100000 in
set_option maxHeartbeats 16000000 in
theorem toLetter_any (e : Lt) (w : World) (h : Hid (e.R w)) (hs : Hid e.S) :
    Calls Try.prog 62 #[.agg #[.int .i64 e.k, .int .i64 e.ad, .int .i64 e.cf, .int .i64 e.q, .int .i64 e.f, .int .i64 e.l, .string e.t, .int .i64 e.tc, .int .i64 e.tr, .int .i64 e.tq, .int .i64 e.ta, .int .i64 e.tb, .slice e.sw.a e.sw.n e.sw.c, .int .i64 e.bf, .int .i64 e.bn, .int .i64 e.bo, .slice e.sb.a e.sb.n e.sb.c]] w fun x w' => ∃ u1 u2 : Sv, x = .returned (.agg #[.int .i64 e.k, .int .i64 e.ad, .int .i64 e.cf, .int .i64 e.q, .int .i64 e.f, .int .i64 e.l, .string e.t, .int .i64 e.tc, .int .i64 e.tr, .int .i64 e.tq, .int .i64 e.ta, .int .i64 e.tb, .slice u1.a u1.n u1.c, .int .i64 e.bf, .int .i64 e.bn, .int .i64 e.bo, .slice u2.a u2.n u2.c]) ∧ OwnI w' w.heap.size u1.v e.ws ∧ SlI w' w.heap.size u2.v e.ts ∧ Below w.heap.size w w' := by
  have hn1 : (w.alloc (.cells #[.int .i64 e.k, .int .i64 e.ad, .int .i64 e.cf, .int .i64 e.q, .int .i64 e.f, .int .i64 e.l, .string e.t, .int .i64 e.tc, .int .i64 e.tr, .int .i64 e.tq, .int .i64 e.ta, .int .i64 e.tb, .slice e.sw.a e.sw.n e.sw.c, .int .i64 e.bf, .int .i64 e.bn, .int .i64 e.bo, .slice e.sb.a e.sb.n e.sb.c] 112)).heap.size = w.heap.size + 1 := by simp
  have hn2 : ((w.alloc (.cells #[.int .i64 e.k, .int .i64 e.ad, .int .i64 e.cf, .int .i64 e.q, .int .i64 e.f, .int .i64 e.l, .string e.t, .int .i64 e.tc, .int .i64 e.tr, .int .i64 e.tq, .int .i64 e.ta, .int .i64 e.tb, .slice e.sw.a e.sw.n e.sw.c, .int .i64 e.bf, .int .i64 e.bn, .int .i64 e.bo, .slice e.sb.a e.sb.n e.sb.c] 112)).alloc (.cells #[.int .i64 0, .int .i64 0, .int .i64 0, .int .i64 0, .int .i64 0, .int .i64 0, .string ⟨#[]⟩, .int .i64 0, .int .i64 0, .int .i64 0, .int .i64 0, .int .i64 0, .slice none 0 0, .int .i64 0, .int .i64 0, .int .i64 0, .slice none 0 0] 117)).heap.size = w.heap.size + 2 := by simp
  have LA : Hid (Bx (((w.alloc (.cells #[.int .i64 e.k, .int .i64 e.ad, .int .i64 e.cf, .int .i64 e.q, .int .i64 e.f, .int .i64 e.l, .string e.t, .int .i64 e.tc, .int .i64 e.tr, .int .i64 e.tq, .int .i64 e.ta, .int .i64 e.tb, .slice e.sw.a e.sw.n e.sw.c, .int .i64 e.bf, .int .i64 e.bn, .int .i64 e.bo, .slice e.sb.a e.sb.n e.sb.c] 112)).alloc (.cells #[.int .i64 0, .int .i64 0, .int .i64 0, .int .i64 0, .int .i64 0, .int .i64 0, .string ⟨#[]⟩, .int .i64 0, .int .i64 0, .int .i64 0, .int .i64 0, .int .i64 0, .slice none 0 0, .int .i64 0, .int .i64 0, .int .i64 0, .slice none 0 0] 117)).alloc (.cells #[.int .i64 0, .int .i64 0, .int .i64 0, .int .i64 0, .int .i64 0, .int .i64 0, .string ⟨#[]⟩, .int .i64 0, .int .i64 0, .int .i64 0, .int .i64 0, .int .i64 0, .slice none 0 0, .int .i64 0, .int .i64 0, .int .i64 0, .slice none 0 0] 117)) w.heap.size 112 [.int .i64 e.k, .int .i64 e.ad, .int .i64 e.cf, .int .i64 e.q, .int .i64 e.f, .int .i64 e.l, .string e.t, .int .i64 e.tc, .int .i64 e.tr, .int .i64 e.tq, .int .i64 e.ta, .int .i64 e.tb, .slice e.sw.a e.sw.n e.sw.c, .int .i64 e.bf, .int .i64 e.bn, .int .i64 e.bo, .slice e.sb.a e.sb.n e.sb.c]) := by
    have h := Bx.new w 112 [.int .i64 e.k, .int .i64 e.ad, .int .i64 e.cf, .int .i64 e.q, .int .i64 e.f, .int .i64 e.l, .string e.t, .int .i64 e.tc, .int .i64 e.tr, .int .i64 e.tq, .int .i64 e.ta, .int .i64 e.tb, .slice e.sw.a e.sw.n e.sw.c, .int .i64 e.bf, .int .i64 e.bn, .int .i64 e.bo, .slice e.sb.a e.sb.n e.sb.c]
    exact ((h).later ((Below.refl _ _).alloc (Nat.le_refl _) _)).later ((Below.refl _ _).alloc (Nat.le_refl _) _)
  have EB : Hid (Bx (((w.alloc (.cells #[.int .i64 e.k, .int .i64 e.ad, .int .i64 e.cf, .int .i64 e.q, .int .i64 e.f, .int .i64 e.l, .string e.t, .int .i64 e.tc, .int .i64 e.tr, .int .i64 e.tq, .int .i64 e.ta, .int .i64 e.tb, .slice e.sw.a e.sw.n e.sw.c, .int .i64 e.bf, .int .i64 e.bn, .int .i64 e.bo, .slice e.sb.a e.sb.n e.sb.c] 112)).alloc (.cells #[.int .i64 0, .int .i64 0, .int .i64 0, .int .i64 0, .int .i64 0, .int .i64 0, .string ⟨#[]⟩, .int .i64 0, .int .i64 0, .int .i64 0, .int .i64 0, .int .i64 0, .slice none 0 0, .int .i64 0, .int .i64 0, .int .i64 0, .slice none 0 0] 117)).alloc (.cells #[.int .i64 0, .int .i64 0, .int .i64 0, .int .i64 0, .int .i64 0, .int .i64 0, .string ⟨#[]⟩, .int .i64 0, .int .i64 0, .int .i64 0, .int .i64 0, .int .i64 0, .slice none 0 0, .int .i64 0, .int .i64 0, .int .i64 0, .slice none 0 0] 117)) (w.heap.size + 1) 117 [.int .i64 0, .int .i64 0, .int .i64 0, .int .i64 0, .int .i64 0, .int .i64 0, .string ⟨#[]⟩, .int .i64 0, .int .i64 0, .int .i64 0, .int .i64 0, .int .i64 0, .slice none 0 0, .int .i64 0, .int .i64 0, .int .i64 0, .slice none 0 0]) := by
    have h := Bx.new (w.alloc (.cells #[.int .i64 e.k, .int .i64 e.ad, .int .i64 e.cf, .int .i64 e.q, .int .i64 e.f, .int .i64 e.l, .string e.t, .int .i64 e.tc, .int .i64 e.tr, .int .i64 e.tq, .int .i64 e.ta, .int .i64 e.tb, .slice e.sw.a e.sw.n e.sw.c, .int .i64 e.bf, .int .i64 e.bn, .int .i64 e.bo, .slice e.sb.a e.sb.n e.sb.c] 112)) 117 [.int .i64 0, .int .i64 0, .int .i64 0, .int .i64 0, .int .i64 0, .int .i64 0, .string ⟨#[]⟩, .int .i64 0, .int .i64 0, .int .i64 0, .int .i64 0, .int .i64 0, .slice none 0 0, .int .i64 0, .int .i64 0, .int .i64 0, .slice none 0 0]
    rw [hn1] at h
    exact (h).later ((Below.refl _ _).alloc (Nat.le_refl _) _)
  have VB : Hid (Bx (((w.alloc (.cells #[.int .i64 e.k, .int .i64 e.ad, .int .i64 e.cf, .int .i64 e.q, .int .i64 e.f, .int .i64 e.l, .string e.t, .int .i64 e.tc, .int .i64 e.tr, .int .i64 e.tq, .int .i64 e.ta, .int .i64 e.tb, .slice e.sw.a e.sw.n e.sw.c, .int .i64 e.bf, .int .i64 e.bn, .int .i64 e.bo, .slice e.sb.a e.sb.n e.sb.c] 112)).alloc (.cells #[.int .i64 0, .int .i64 0, .int .i64 0, .int .i64 0, .int .i64 0, .int .i64 0, .string ⟨#[]⟩, .int .i64 0, .int .i64 0, .int .i64 0, .int .i64 0, .int .i64 0, .slice none 0 0, .int .i64 0, .int .i64 0, .int .i64 0, .slice none 0 0] 117)).alloc (.cells #[.int .i64 0, .int .i64 0, .int .i64 0, .int .i64 0, .int .i64 0, .int .i64 0, .string ⟨#[]⟩, .int .i64 0, .int .i64 0, .int .i64 0, .int .i64 0, .int .i64 0, .slice none 0 0, .int .i64 0, .int .i64 0, .int .i64 0, .slice none 0 0] 117)) (w.heap.size + 2) 117 [.int .i64 0, .int .i64 0, .int .i64 0, .int .i64 0, .int .i64 0, .int .i64 0, .string ⟨#[]⟩, .int .i64 0, .int .i64 0, .int .i64 0, .int .i64 0, .int .i64 0, .slice none 0 0, .int .i64 0, .int .i64 0, .int .i64 0, .slice none 0 0]) := by
    have h := Bx.new ((w.alloc (.cells #[.int .i64 e.k, .int .i64 e.ad, .int .i64 e.cf, .int .i64 e.q, .int .i64 e.f, .int .i64 e.l, .string e.t, .int .i64 e.tc, .int .i64 e.tr, .int .i64 e.tq, .int .i64 e.ta, .int .i64 e.tb, .slice e.sw.a e.sw.n e.sw.c, .int .i64 e.bf, .int .i64 e.bn, .int .i64 e.bo, .slice e.sb.a e.sb.n e.sb.c] 112)).alloc (.cells #[.int .i64 0, .int .i64 0, .int .i64 0, .int .i64 0, .int .i64 0, .int .i64 0, .string ⟨#[]⟩, .int .i64 0, .int .i64 0, .int .i64 0, .int .i64 0, .int .i64 0, .slice none 0 0, .int .i64 0, .int .i64 0, .int .i64 0, .slice none 0 0] 117)) 117 [.int .i64 0, .int .i64 0, .int .i64 0, .int .i64 0, .int .i64 0, .int .i64 0, .string ⟨#[]⟩, .int .i64 0, .int .i64 0, .int .i64 0, .int .i64 0, .int .i64 0, .slice none 0 0, .int .i64 0, .int .i64 0, .int .i64 0, .slice none 0 0]
    rw [hn2] at h
    exact h
  have BW : Hid (Below w.heap.size w (((w.alloc (.cells #[.int .i64 e.k, .int .i64 e.ad, .int .i64 e.cf, .int .i64 e.q, .int .i64 e.f, .int .i64 e.l, .string e.t, .int .i64 e.tc, .int .i64 e.tr, .int .i64 e.tq, .int .i64 e.ta, .int .i64 e.tb, .slice e.sw.a e.sw.n e.sw.c, .int .i64 e.bf, .int .i64 e.bn, .int .i64 e.bo, .slice e.sb.a e.sb.n e.sb.c] 112)).alloc (.cells #[.int .i64 0, .int .i64 0, .int .i64 0, .int .i64 0, .int .i64 0, .int .i64 0, .string ⟨#[]⟩, .int .i64 0, .int .i64 0, .int .i64 0, .int .i64 0, .int .i64 0, .slice none 0 0, .int .i64 0, .int .i64 0, .int .i64 0, .slice none 0 0] 117)).alloc (.cells #[.int .i64 0, .int .i64 0, .int .i64 0, .int .i64 0, .int .i64 0, .int .i64 0, .string ⟨#[]⟩, .int .i64 0, .int .i64 0, .int .i64 0, .int .i64 0, .int .i64 0, .slice none 0 0, .int .i64 0, .int .i64 0, .int .i64 0, .slice none 0 0] 117))) := ((((Below.refl _ _).alloc (by simp) _).alloc (by simp; try omega) _).alloc (by simp; try omega) _)
  clear hn1 hn2
  have h0 := h
  clear h
  go_enter Try.func62, Try.ntmps62
  have c0 := LA.out.cell 0
  simp only [List.getElem?_cons_zero] at c0
  go_wp2_with (first | (with_reducible refine wpList_haltS 3 _ _ rfl ?_))
  refine Stp.go ?_
  generalize (((w.alloc (.cells #[.int .i64 e.k, .int .i64 e.ad, .int .i64 e.cf, .int .i64 e.q, .int .i64 e.f, .int .i64 e.l, .string e.t, .int .i64 e.tc, .int .i64 e.tr, .int .i64 e.tq, .int .i64 e.ta, .int .i64 e.tb, .slice e.sw.a e.sw.n e.sw.c, .int .i64 e.bf, .int .i64 e.bn, .int .i64 e.bo, .slice e.sb.a e.sb.n e.sb.c] 112)).alloc (.cells #[.int .i64 0, .int .i64 0, .int .i64 0, .int .i64 0, .int .i64 0, .int .i64 0, .string ⟨#[]⟩, .int .i64 0, .int .i64 0, .int .i64 0, .int .i64 0, .int .i64 0, .slice none 0 0, .int .i64 0, .int .i64 0, .int .i64 0, .slice none 0 0] 117)).alloc (.cells #[.int .i64 0, .int .i64 0, .int .i64 0, .int .i64 0, .int .i64 0, .int .i64 0, .string ⟨#[]⟩, .int .i64 0, .int .i64 0, .int .i64 0, .int .i64 0, .int .i64 0, .slice none 0 0, .int .i64 0, .int .i64 0, .int .i64 0, .slice none 0 0] 117)) = W at *
  have zW : w.heap.size + 2 < W.heap.size := VB.out.lt
  clear c0
  refine wpList_st1 rfl 3 _ _ rfl (w.heap.size + 2) 0 rfl 117 _ VB.out (.int .i64 e.k) rfl (by simp) rfl Try.size3 [.int .i64 e.k, .int .i64 0, .int .i64 0, .int .i64 0, .int .i64 0, .int .i64 0, .string ⟨#[]⟩, .int .i64 0, .int .i64 0, .int .i64 0, .int .i64 0, .int .i64 0, .slice none 0 0, .int .i64 0, .int .i64 0, .int .i64 0, .slice none 0 0] rfl ?_
  intro w1 OB TB
  have z_w1 : W.heap.size ≤ w1.heap.size := Nat.le_of_eq TB.size.symm
  have LA : Hid (Bx w1 w.heap.size 112 [.int .i64 e.k, .int .i64 e.ad, .int .i64 e.cf, .int .i64 e.q, .int .i64 e.f, .int .i64 e.l, .string e.t, .int .i64 e.tc, .int .i64 e.tr, .int .i64 e.tq, .int .i64 e.ta, .int .i64 e.tb, .slice e.sw.a e.sw.n e.sw.c, .int .i64 e.bf, .int .i64 e.bn, .int .i64 e.bo, .slice e.sb.a e.sb.n e.sb.c]) := LA.out.turn TB (by omega)
  have EB : Hid (Bx w1 (w.heap.size + 1) 117 [.int .i64 0, .int .i64 0, .int .i64 0, .int .i64 0, .int .i64 0, .int .i64 0, .string ⟨#[]⟩, .int .i64 0, .int .i64 0, .int .i64 0, .int .i64 0, .int .i64 0, .slice none 0 0, .int .i64 0, .int .i64 0, .int .i64 0, .slice none 0 0]) := EB.out.turn TB (by omega)
  have BW : Hid (Below w.heap.size w w1) := BW.out.trans (TB.below (by omega))
  have VB : Hid (Bx w1 (w.heap.size + 2) 117 [.int .i64 e.k, .int .i64 0, .int .i64 0, .int .i64 0, .int .i64 0, .int .i64 0, .string ⟨#[]⟩, .int .i64 0, .int .i64 0, .int .i64 0, .int .i64 0, .int .i64 0, .slice none 0 0, .int .i64 0, .int .i64 0, .int .i64 0, .slice none 0 0]) := OB
  clear OB TB
  have c1 := LA.out.cell 1
  simp only [List.getElem?_cons_succ, List.getElem?_cons_zero] at c1
  go_wp2_with (first | (with_reducible refine wpList_haltS 3 _ _ rfl ?_))
  refine Stp.go ?_
  clear c1
  refine wpList_st1 rfl 3 _ _ rfl (w.heap.size + 2) 1 rfl 117 _ VB.out (.int .i64 e.ad) rfl (by simp) rfl Try.size3 [.int .i64 e.k, .int .i64 e.ad, .int .i64 0, .int .i64 0, .int .i64 0, .int .i64 0, .string ⟨#[]⟩, .int .i64 0, .int .i64 0, .int .i64 0, .int .i64 0, .int .i64 0, .slice none 0 0, .int .i64 0, .int .i64 0, .int .i64 0, .slice none 0 0] rfl ?_
  intro w2 OB TB
  have z_w2 : w1.heap.size ≤ w2.heap.size := Nat.le_of_eq TB.size.symm
  have LA : Hid (Bx w2 w.heap.size 112 [.int .i64 e.k, .int .i64 e.ad, .int .i64 e.cf, .int .i64 e.q, .int .i64 e.f, .int .i64 e.l, .string e.t, .int .i64 e.tc, .int .i64 e.tr, .int .i64 e.tq, .int .i64 e.ta, .int .i64 e.tb, .slice e.sw.a e.sw.n e.sw.c, .int .i64 e.bf, .int .i64 e.bn, .int .i64 e.bo, .slice e.sb.a e.sb.n e.sb.c]) := LA.out.turn TB (by omega)
  have EB : Hid (Bx w2 (w.heap.size + 1) 117 [.int .i64 0, .int .i64 0, .int .i64 0, .int .i64 0, .int .i64 0, .int .i64 0, .string ⟨#[]⟩, .int .i64 0, .int .i64 0, .int .i64 0, .int .i64 0, .int .i64 0, .slice none 0 0, .int .i64 0, .int .i64 0, .int .i64 0, .slice none 0 0]) := EB.out.turn TB (by omega)
  have BW : Hid (Below w.heap.size w w2) := BW.out.trans (TB.below (by omega))
  have VB : Hid (Bx w2 (w.heap.size + 2) 117 [.int .i64 e.k, .int .i64 e.ad, .int .i64 0, .int .i64 0, .int .i64 0, .int .i64 0, .string ⟨#[]⟩, .int .i64 0, .int .i64 0, .int .i64 0, .int .i64 0, .int .i64 0, .slice none 0 0, .int .i64 0, .int .i64 0, .int .i64 0, .slice none 0 0]) := OB
  clear OB TB
  have c2 := LA.out.cell 2
  simp only [List.getElem?_cons_succ, List.getElem?_cons_zero] at c2
  go_wp2_with (first | (with_reducible refine wpList_haltS 3 _ _ rfl ?_))
  refine Stp.go ?_
  clear c2
  refine wpList_st1 rfl 3 _ _ rfl (w.heap.size + 2) 2 rfl 117 _ VB.out (.int .i64 e.cf) rfl (by simp) rfl Try.size3 [.int .i64 e.k, .int .i64 e.ad, .int .i64 e.cf, .int .i64 0, .int .i64 0, .int .i64 0, .string ⟨#[]⟩, .int .i64 0, .int .i64 0, .int .i64 0, .int .i64 0, .int .i64 0, .slice none 0 0, .int .i64 0, .int .i64 0, .int .i64 0, .slice none 0 0] rfl ?_
  intro w3 OB TB
  have z_w3 : w2.heap.size ≤ w3.heap.size := Nat.le_of_eq TB.size.symm
  have LA : Hid (Bx w3 w.heap.size 112 [.int .i64 e.k, .int .i64 e.ad, .int .i64 e.cf, .int .i64 e.q, .int .i64 e.f, .int .i64 e.l, .string e.t, .int .i64 e.tc, .int .i64 e.tr, .int .i64 e.tq, .int .i64 e.ta, .int .i64 e.tb, .slice e.sw.a e.sw.n e.sw.c, .int .i64 e.bf, .int .i64 e.bn, .int .i64 e.bo, .slice e.sb.a e.sb.n e.sb.c]) := LA.out.turn TB (by omega)
  have EB : Hid (Bx w3 (w.heap.size + 1) 117 [.int .i64 0, .int .i64 0, .int .i64 0, .int .i64 0, .int .i64 0, .int .i64 0, .string ⟨#[]⟩, .int .i64 0, .int .i64 0, .int .i64 0, .int .i64 0, .int .i64 0, .slice none 0 0, .int .i64 0, .int .i64 0, .int .i64 0, .slice none 0 0]) := EB.out.turn TB (by omega)
  have BW : Hid (Below w.heap.size w w3) := BW.out.trans (TB.below (by omega))
  have VB : Hid (Bx w3 (w.heap.size + 2) 117 [.int .i64 e.k, .int .i64 e.ad, .int .i64 e.cf, .int .i64 0, .int .i64 0, .int .i64 0, .string ⟨#[]⟩, .int .i64 0, .int .i64 0, .int .i64 0, .int .i64 0, .int .i64 0, .slice none 0 0, .int .i64 0, .int .i64 0, .int .i64 0, .slice none 0 0]) := OB
  clear OB TB
  go_wp2_with (first | (refine wpList_ldG rfl 53 _ rfl w.heap.size 3 rfl 112 _ LA.out [.int .i64 e.q, .int .i64 e.f, .int .i64 e.l, .string e.t] rfl _ Try.underlying53 rfl Try.sizeLI ?_))
  refine (toItem_any e.q e.f e.l e.t _).mono ?_
  rintro e w4 ⟨rfl, b⟩
  have z_w4 : w3.heap.size ≤ w4.heap.size := b.size
  have LA : Hid (Bx w4 w.heap.size 112 [.int .i64 e.k, .int .i64 e.ad, .int .i64 e.cf, .int .i64 e.q, .int .i64 e.f, .int .i64 e.l, .string e.t, .int .i64 e.tc, .int .i64 e.tr, .int .i64 e.tq, .int .i64 e.ta, .int .i64 e.tb, .slice e.sw.a e.sw.n e.sw.c, .int .i64 e.bf, .int .i64 e.bn, .int .i64 e.bo, .slice e.sb.a e.sb.n e.sb.c]) := LA.out.later b
  have EB : Hid (Bx w4 (w.heap.size + 1) 117 [.int .i64 0, .int .i64 0, .int .i64 0, .int .i64 0, .int .i64 0, .int .i64 0, .string ⟨#[]⟩, .int .i64 0, .int .i64 0, .int .i64 0, .int .i64 0, .int .i64 0, .slice none 0 0, .int .i64 0, .int .i64 0, .int .i64 0, .slice none 0 0]) := EB.out.later b
  have VB : Hid (Bx w4 (w.heap.size + 2) 117 [.int .i64 e.k, .int .i64 e.ad, .int .i64 e.cf, .int .i64 0, .int .i64 0, .int .i64 0, .string ⟨#[]⟩, .int .i64 0, .int .i64 0, .int .i64 0, .int .i64 0, .int .i64 0, .slice none 0 0, .int .i64 0, .int .i64 0, .int .i64 0, .slice none 0 0]) := VB.out.later b
  have BW : Hid (Below w.heap.size w w4) := bl_next BW.out b
  clear b
  go_wp2_with (first | (with_reducible refine wpList_haltS 57 _ _ rfl ?_))
  refine Stp.go ?_
  refine wpList_stB rfl 57 _ _ rfl (w.heap.size + 2) 3 rfl 117 _ VB.out [.int .i64 e.q, .int .i64 e.f, .int .i64 e.l, .string e.t] rfl (by simp) Try.sizeI rfl [.int .i64 e.k, .int .i64 e.ad, .int .i64 e.cf, .int .i64 e.q, .int .i64 e.f, .int .i64 e.l, .string e.t, .int .i64 0, .int .i64 0, .int .i64 0, .int .i64 0, .int .i64 0, .slice none 0 0, .int .i64 0, .int .i64 0, .int .i64 0, .slice none 0 0] rfl ?_
  intro w5 OB TB
  have z_w5 : w4.heap.size ≤ w5.heap.size := Nat.le_of_eq TB.size.symm
  have LA : Hid (Bx w5 w.heap.size 112 [.int .i64 e.k, .int .i64 e.ad, .int .i64 e.cf, .int .i64 e.q, .int .i64 e.f, .int .i64 e.l, .string e.t, .int .i64 e.tc, .int .i64 e.tr, .int .i64 e.tq, .int .i64 e.ta, .int .i64 e.tb, .slice e.sw.a e.sw.n e.sw.c, .int .i64 e.bf, .int .i64 e.bn, .int .i64 e.bo, .slice e.sb.a e.sb.n e.sb.c]) := LA.out.turn TB (by omega)
  have EB : Hid (Bx w5 (w.heap.size + 1) 117 [.int .i64 0, .int .i64 0, .int .i64 0, .int .i64 0, .int .i64 0, .int .i64 0, .string ⟨#[]⟩, .int .i64 0, .int .i64 0, .int .i64 0, .int .i64 0, .int .i64 0, .slice none 0 0, .int .i64 0, .int .i64 0, .int .i64 0, .slice none 0 0]) := EB.out.turn TB (by omega)
  have BW : Hid (Below w.heap.size w w5) := BW.out.trans (TB.below (by omega))
  have VB : Hid (Bx w5 (w.heap.size + 2) 117 [.int .i64 e.k, .int .i64 e.ad, .int .i64 e.cf, .int .i64 e.q, .int .i64 e.f, .int .i64 e.l, .string e.t, .int .i64 0, .int .i64 0, .int .i64 0, .int .i64 0, .int .i64 0, .slice none 0 0, .int .i64 0, .int .i64 0, .int .i64 0, .slice none 0 0]) := OB
  clear OB TB
  have HR : Hid (RI w5 e.sw.v e.ws) := h0.out.1.stays BW.out
  go_wp2_with (first | (refine wpList_ldG rfl 102 _ rfl w.heap.size 7 rfl 112 _ LA.out [.int .i64 e.tc, .int .i64 e.tr, .int .i64 e.tq, .int .i64 e.ta, .int .i64 e.tb, .slice e.sw.a e.sw.n e.sw.c] rfl _ Try.underlying102 rfl Try.sizeLTk ?_))
  refine (toTok_r e.tc e.tr e.tq e.ta e.tb e.sw e.ws _ HR hs.out.2.1).mono ?_
  rintro e w6 ⟨u1, rfl, o1, b⟩
  have O1 : Hid (OwnI w6 (w.heap.size + 3) u1.v e.ws) := o1.down (by omega)
  clear o1 HR
  have z_w6 : w5.heap.size ≤ w6.heap.size := b.size
  have LA : Hid (Bx w6 w.heap.size 112 [.int .i64 e.k, .int .i64 e.ad, .int .i64 e.cf, .int .i64 e.q, .int .i64 e.f, .int .i64 e.l, .string e.t, .int .i64 e.tc, .int .i64 e.tr, .int .i64 e.tq, .int .i64 e.ta, .int .i64 e.tb, .slice e.sw.a e.sw.n e.sw.c, .int .i64 e.bf, .int .i64 e.bn, .int .i64 e.bo, .slice e.sb.a e.sb.n e.sb.c]) := LA.out.later b
  have EB : Hid (Bx w6 (w.heap.size + 1) 117 [.int .i64 0, .int .i64 0, .int .i64 0, .int .i64 0, .int .i64 0, .int .i64 0, .string ⟨#[]⟩, .int .i64 0, .int .i64 0, .int .i64 0, .int .i64 0, .int .i64 0, .slice none 0 0, .int .i64 0, .int .i64 0, .int .i64 0, .slice none 0 0]) := EB.out.later b
  have VB : Hid (Bx w6 (w.heap.size + 2) 117 [.int .i64 e.k, .int .i64 e.ad, .int .i64 e.cf, .int .i64 e.q, .int .i64 e.f, .int .i64 e.l, .string e.t, .int .i64 0, .int .i64 0, .int .i64 0, .int .i64 0, .int .i64 0, .slice none 0 0, .int .i64 0, .int .i64 0, .int .i64 0, .slice none 0 0]) := VB.out.later b
  have BW : Hid (Below w.heap.size w w6) := bl_next BW.out b
  clear b
  go_wp2_with (first | (with_reducible refine wpList_haltS 72 _ _ rfl ?_))
  refine Stp.go ?_
  refine wpList_stB rfl 72 _ _ rfl (w.heap.size + 2) 7 rfl 117 _ VB.out [.int .i64 e.tc, .int .i64 e.tr, .int .i64 e.tq, .int .i64 e.ta, .int .i64 e.tb, .slice u1.a u1.n u1.c] rfl (by simp) Try.sizeT9 rfl [.int .i64 e.k, .int .i64 e.ad, .int .i64 e.cf, .int .i64 e.q, .int .i64 e.f, .int .i64 e.l, .string e.t, .int .i64 e.tc, .int .i64 e.tr, .int .i64 e.tq, .int .i64 e.ta, .int .i64 e.tb, .slice u1.a u1.n u1.c, .int .i64 0, .int .i64 0, .int .i64 0, .slice none 0 0] rfl ?_
  intro w7 OB TB
  have z_w7 : w6.heap.size ≤ w7.heap.size := Nat.le_of_eq TB.size.symm
  have LA : Hid (Bx w7 w.heap.size 112 [.int .i64 e.k, .int .i64 e.ad, .int .i64 e.cf, .int .i64 e.q, .int .i64 e.f, .int .i64 e.l, .string e.t, .int .i64 e.tc, .int .i64 e.tr, .int .i64 e.tq, .int .i64 e.ta, .int .i64 e.tb, .slice e.sw.a e.sw.n e.sw.c, .int .i64 e.bf, .int .i64 e.bn, .int .i64 e.bo, .slice e.sb.a e.sb.n e.sb.c]) := LA.out.turn TB (by omega)
  have EB : Hid (Bx w7 (w.heap.size + 1) 117 [.int .i64 0, .int .i64 0, .int .i64 0, .int .i64 0, .int .i64 0, .int .i64 0, .string ⟨#[]⟩, .int .i64 0, .int .i64 0, .int .i64 0, .int .i64 0, .int .i64 0, .slice none 0 0, .int .i64 0, .int .i64 0, .int .i64 0, .slice none 0 0]) := EB.out.turn TB (by omega)
  have BW : Hid (Below w.heap.size w w7) := BW.out.trans (TB.below (by omega))
  have O1 : Hid (OwnI w7 (w.heap.size + 3) u1.v e.ws) := O1.out.keep fun b hb _ => TB.block b (by have := (O1.out.lt b hb).1; omega)
  have VB : Hid (Bx w7 (w.heap.size + 2) 117 [.int .i64 e.k, .int .i64 e.ad, .int .i64 e.cf, .int .i64 e.q, .int .i64 e.f, .int .i64 e.l, .string e.t, .int .i64 e.tc, .int .i64 e.tr, .int .i64 e.tq, .int .i64 e.ta, .int .i64 e.tb, .slice u1.a u1.n u1.c, .int .i64 0, .int .i64 0, .int .i64 0, .slice none 0 0]) := OB
  clear OB TB
  have HR : Hid (RSt w7 e.sb e.ts) := RSt.stays h0.out.2 BW.out
  go_wp2_with (first | (refine wpList_ldG rfl 110 _ rfl w.heap.size 13 rfl 112 _ LA.out [.int .i64 e.bf, .int .i64 e.bn, .int .i64 e.bo, .slice e.sb.a e.sb.n e.sb.c] rfl _ Try.underlying110 rfl Try.sizeLBu ?_))
  refine (toBundle_any e.bf e.bn e.bo e.sb e.ts _ HR hs.out.2.2).mono ?_
  rintro e w8 ⟨u2, rfl, o2, b⟩
  have O2 : Hid (SlI w8 (w.heap.size + 3) u2.v e.ts) := Sl.down o2 (by omega)
  clear o2 HR
  have z_w8 : w7.heap.size ≤ w8.heap.size := b.size
  have LA : Hid (Bx w8 w.heap.size 112 [.int .i64 e.k, .int .i64 e.ad, .int .i64 e.cf, .int .i64 e.q, .int .i64 e.f, .int .i64 e.l, .string e.t, .int .i64 e.tc, .int .i64 e.tr, .int .i64 e.tq, .int .i64 e.ta, .int .i64 e.tb, .slice e.sw.a e.sw.n e.sw.c, .int .i64 e.bf, .int .i64 e.bn, .int .i64 e.bo, .slice e.sb.a e.sb.n e.sb.c]) := LA.out.later b
  have EB : Hid (Bx w8 (w.heap.size + 1) 117 [.int .i64 0, .int .i64 0, .int .i64 0, .int .i64 0, .int .i64 0, .int .i64 0, .string ⟨#[]⟩, .int .i64 0, .int .i64 0, .int .i64 0, .int .i64 0, .int .i64 0, .slice none 0 0, .int .i64 0, .int .i64 0, .int .i64 0, .slice none 0 0]) := EB.out.later b
  have VB : Hid (Bx w8 (w.heap.size + 2) 117 [.int .i64 e.k, .int .i64 e.ad, .int .i64 e.cf, .int .i64 e.q, .int .i64 e.f, .int .i64 e.l, .string e.t, .int .i64 e.tc, .int .i64 e.tr, .int .i64 e.tq, .int .i64 e.ta, .int .i64 e.tb, .slice u1.a u1.n u1.c, .int .i64 0, .int .i64 0, .int .i64 0, .slice none 0 0]) := VB.out.later b
  have BW : Hid (Below w.heap.size w w8) := bl_next BW.out b
  have O1 : Hid (OwnI w8 (w.heap.size + 3) u1.v e.ws) := O1.out.keep fun _ _ hk => (b).block _ hk
  clear b
  go_wp2_with (first | (with_reducible refine wpList_haltS 115 _ _ rfl ?_))
  refine Stp.go ?_
  refine wpList_stB rfl 115 _ _ rfl (w.heap.size + 2) 13 rfl 117 _ VB.out [.int .i64 e.bf, .int .i64 e.bn, .int .i64 e.bo, .slice u2.a u2.n u2.c] rfl (by simp) Try.sizeBu rfl [.int .i64 e.k, .int .i64 e.ad, .int .i64 e.cf, .int .i64 e.q, .int .i64 e.f, .int .i64 e.l, .string e.t, .int .i64 e.tc, .int .i64 e.tr, .int .i64 e.tq, .int .i64 e.ta, .int .i64 e.tb, .slice u1.a u1.n u1.c, .int .i64 e.bf, .int .i64 e.bn, .int .i64 e.bo, .slice u2.a u2.n u2.c] rfl ?_
  intro w9 OB TB
  have z_w9 : w8.heap.size ≤ w9.heap.size := Nat.le_of_eq TB.size.symm
  have LA : Hid (Bx w9 w.heap.size 112 [.int .i64 e.k, .int .i64 e.ad, .int .i64 e.cf, .int .i64 e.q, .int .i64 e.f, .int .i64 e.l, .string e.t, .int .i64 e.tc, .int .i64 e.tr, .int .i64 e.tq, .int .i64 e.ta, .int .i64 e.tb, .slice e.sw.a e.sw.n e.sw.c, .int .i64 e.bf, .int .i64 e.bn, .int .i64 e.bo, .slice e.sb.a e.sb.n e.sb.c]) := LA.out.turn TB (by omega)
  have EB : Hid (Bx w9 (w.heap.size + 1) 117 [.int .i64 0, .int .i64 0, .int .i64 0, .int .i64 0, .int .i64 0, .int .i64 0, .string ⟨#[]⟩, .int .i64 0, .int .i64 0, .int .i64 0, .int .i64 0, .int .i64 0, .slice none 0 0, .int .i64 0, .int .i64 0, .int .i64 0, .slice none 0 0]) := EB.out.turn TB (by omega)
  have BW : Hid (Below w.heap.size w w9) := BW.out.trans (TB.below (by omega))
  have O1 : Hid (OwnI w9 (w.heap.size + 3) u1.v e.ws) := O1.out.keep fun b hb _ => TB.block b (by have := (O1.out.lt b hb).1; omega)
  have O2 : Hid (SlI w9 (w.heap.size + 3) u2.v e.ts) := Sl.keep O2.out fun b hb _ => TB.block b (by have := (Sl.lt O2.out b hb).1; omega)
  have VB : Hid (Bx w9 (w.heap.size + 2) 117 [.int .i64 e.k, .int .i64 e.ad, .int .i64 e.cf, .int .i64 e.q, .int .i64 e.f, .int .i64 e.l, .string e.t, .int .i64 e.tc, .int .i64 e.tr, .int .i64 e.tq, .int .i64 e.ta, .int .i64 e.tb, .slice u1.a u1.n u1.c, .int .i64 e.bf, .int .i64 e.bn, .int .i64 e.bo, .slice u2.a u2.n u2.c]) := OB
  clear OB TB
  go_wp2_with (first | (refine wpList_ldG rfl 117 _ rfl (w.heap.size + 2) 0 rfl 117 _ VB.out [.int .i64 e.k, .int .i64 e.ad, .int .i64 e.cf, .int .i64 e.q, .int .i64 e.f, .int .i64 e.l, .string e.t, .int .i64 e.tc, .int .i64 e.tr, .int .i64 e.tq, .int .i64 e.ta, .int .i64 e.tb, .slice u1.a u1.n u1.c, .int .i64 e.bf, .int .i64 e.bn, .int .i64 e.bo, .slice u2.a u2.n u2.c] rfl _ Try.underlying117 rfl Try.sizeLt9 ?_) | (with_reducible refine wpList_haltS 117 _ _ rfl ?_))
  refine Stp.go ?_
  refine wpList_stB rfl 117 _ _ rfl (w.heap.size + 1) 0 rfl 117 _ EB.out [.int .i64 e.k, .int .i64 e.ad, .int .i64 e.cf, .int .i64 e.q, .int .i64 e.f, .int .i64 e.l, .string e.t, .int .i64 e.tc, .int .i64 e.tr, .int .i64 e.tq, .int .i64 e.ta, .int .i64 e.tb, .slice u1.a u1.n u1.c, .int .i64 e.bf, .int .i64 e.bn, .int .i64 e.bo, .slice u2.a u2.n u2.c] rfl (by simp) Try.sizeLt9 rfl [.int .i64 e.k, .int .i64 e.ad, .int .i64 e.cf, .int .i64 e.q, .int .i64 e.f, .int .i64 e.l, .string e.t, .int .i64 e.tc, .int .i64 e.tr, .int .i64 e.tq, .int .i64 e.ta, .int .i64 e.tb, .slice u1.a u1.n u1.c, .int .i64 e.bf, .int .i64 e.bn, .int .i64 e.bo, .slice u2.a u2.n u2.c] rfl ?_
  intro w10 OB TB
  have z_w10 : w9.heap.size ≤ w10.heap.size := Nat.le_of_eq TB.size.symm
  have LA : Hid (Bx w10 w.heap.size 112 [.int .i64 e.k, .int .i64 e.ad, .int .i64 e.cf, .int .i64 e.q, .int .i64 e.f, .int .i64 e.l, .string e.t, .int .i64 e.tc, .int .i64 e.tr, .int .i64 e.tq, .int .i64 e.ta, .int .i64 e.tb, .slice e.sw.a e.sw.n e.sw.c, .int .i64 e.bf, .int .i64 e.bn, .int .i64 e.bo, .slice e.sb.a e.sb.n e.sb.c]) := LA.out.turn TB (by omega)
  have VB : Hid (Bx w10 (w.heap.size + 2) 117 [.int .i64 e.k, .int .i64 e.ad, .int .i64 e.cf, .int .i64 e.q, .int .i64 e.f, .int .i64 e.l, .string e.t, .int .i64 e.tc, .int .i64 e.tr, .int .i64 e.tq, .int .i64 e.ta, .int .i64 e.tb, .slice u1.a u1.n u1.c, .int .i64 e.bf, .int .i64 e.bn, .int .i64 e.bo, .slice u2.a u2.n u2.c]) := VB.out.turn TB (by omega)
  have BW : Hid (Below w.heap.size w w10) := BW.out.trans (TB.below (by omega))
  have O1 : Hid (OwnI w10 (w.heap.size + 3) u1.v e.ws) := O1.out.keep fun b hb _ => TB.block b (by have := (O1.out.lt b hb).1; omega)
  have O2 : Hid (SlI w10 (w.heap.size + 3) u2.v e.ts) := Sl.keep O2.out fun b hb _ => TB.block b (by have := (Sl.lt O2.out b hb).1; omega)
  have EB : Hid (Bx w10 (w.heap.size + 1) 117 [.int .i64 e.k, .int .i64 e.ad, .int .i64 e.cf, .int .i64 e.q, .int .i64 e.f, .int .i64 e.l, .string e.t, .int .i64 e.tc, .int .i64 e.tr, .int .i64 e.tq, .int .i64 e.ta, .int .i64 e.tb, .slice u1.a u1.n u1.c, .int .i64 e.bf, .int .i64 e.bn, .int .i64 e.bo, .slice u2.a u2.n u2.c]) := OB
  clear OB TB
  go_wp2_with fail
  refine bodyPost_ret (results_b Try.results62 (w.heap.size + 1) 117 [.int .i64 e.k, .int .i64 e.ad, .int .i64 e.cf, .int .i64 e.q, .int .i64 e.f, .int .i64 e.l, .string e.t, .int .i64 e.tc, .int .i64 e.tr, .int .i64 e.tq, .int .i64 e.ta, .int .i64 e.tb, .slice u1.a u1.n u1.c, .int .i64 e.bf, .int .i64 e.bn, .int .i64 e.bo, .slice u2.a u2.n u2.c] _ rfl EB.out Try.underlying117 rfl Try.sizeLt9) rfl ?_
  exact ⟨u1, u2, rfl, O1.out.down (by omega), Sl.down O2.out (by omega), BW.out⟩
/-- a list of them that is read. -/
def LtsR (w : World) (s : Sv) (es : List Lt) : Prop := s.n = es.length ∧ RwA w s.a 17 (es.map Lt.row) ∧ ∀ e ∈ es, e.R w
theorem LtsR.stays {w w' : World} {s : Sv} {es : List Lt} (h : LtsR w s es) (b : Below w.heap.size w w') : LtsR w' s es := ⟨h.1, h.2.1.stays b, fun e he => (h.2.2 e he).stays b⟩
/-- a list of the call's own. -/
def LtsO (w : World) (B : Nat) (s : Sv) (es : List Lt) : Prop := SlN w 117 17 B s.v (es.map Lt.row) ∧ ∀ e ∈ es, e.O w B
theorem LtsO.r {w : World} {B : Nat} {s : Sv} {es : List Lt} (h : LtsO w B s es) : LtsR w s es := ⟨by have := h.1.slen; simpa using this, h.1.rwa, fun e he => (h.2 e he).r⟩
theorem LtsO.keep {w w' : World} {B : Nat} {s : Sv} {es : List Lt} (h : LtsO w B s es) (hk : ∀ b, B ≤ b → b < w.heap.size → w'.heap[b]? = w.heap[b]?) : LtsO w' B s es := ⟨h.1.keep fun b hb hl => hk b (h.1.lt b hb).1 hl, fun e he => (h.2 e he).keep hk⟩
theorem LtsO.below {w w' : World} {B : Nat} {s : Sv} {es : List Lt} (h : LtsO w B s es) (b : Below w.heap.size w w') : LtsO w' B s es := h.keep fun k _ hk => b.block k hk
theorem LtsO.down {w : World} {B B' : Nat} {s : Sv} {es : List Lt} (h : LtsO w B s es) (hB : B' ≤ B) : LtsO w B' s es := ⟨h.1.down hB, fun e he => (h.2 e he).down hB⟩
theorem LtsO.nil (w : World) (B : Nat) : LtsO w B zSv [] := ⟨SlN.nil _ _ _ _, fun e he => by cases he⟩
/-- each one's lists lie behind those of the ones ahead. -/
def LtsUp (es : List Lt) : Prop := (∀ e ∈ es, e.Up) ∧ es.Pairwise fun a b => ∀ x y, a.own x → b.own y → x < y
def Lts.tot (es : List Lt) : Nat := (es.map fun e => e.sz).sum
theorem Lts.tot_take (es : List Lt) (k : Nat) (hk : k < es.length) : Lts.tot (es.take (k + 1)) = Lts.tot (es.take k) + es[k].sz := by
  unfold Lts.tot
  rw [List.take_succ_eq_append_getElem hk, List.map_append, List.sum_append]
  simp

set_option maxRecDepth 100000 in
set_option maxHeartbeats 4000000 in
theorem szLetters_any (s : Sv) (es : List Lt) (left : Nat) (w : World) (hx : Hid (LtsR w s es)) (hleft : left ≤ 1048576) (hl : es.length ≤ 9223372036854775807) (hs : Hid (∀ e ∈ es, e.L)) :
    Calls Try.prog 35 #[.slice s.a s.n s.c, .int .i64 left] w fun x w' => (x = .returned (.int .i64 (-1)) ∨ ∃ z : Nat, x = .returned (.int .i64 z) ∧ Hid (z + (es.length + Lts.tot es) ≤ left)) ∧ Below w.heap.size w w' := by
  obtain ⟨a, n, c⟩ := s
  dsimp only
  have HN : Hid (n = es.length) := hx.out.1
  have hn : n ≤ 9223372036854775807 := by have := HN.out; omega
  clear hl
  by_cases h1 : left < n
  · have hd : decide ((left : Int) - (n : Int) < 0) = true := by simp; omega
    go_enter Try.func35, Try.ntmps35
    go_wp2_with fail
    go_ret
    exact ⟨.inl rfl, Below.refl _ _⟩
  have hd : decide ((left : Int) - (n : Int) < 0) = false := by simp; omega
  go_enter Try.func35, Try.ntmps35
  go_wp2_with fail
  clear hd
  go_loopw [1, 5] (fun lf i wr => ∃ (k z : Nat), k ≤ n ∧ z ≤ 1048576 ∧ lf = .int .i64 z ∧ i = .int .i64 k ∧ Hid (z + (es.length + Lts.tot (es.take k)) ≤ left) ∧ Hid (Below w.heap.size w wr)) (fun _ i _ => n - (intOf i).toNat)
  case atStart => exact ⟨0, left - n, Nat.zero_le _, by omega, by congr 1; omega, rfl, (by have := HN.out; simp [Lts.tot]; omega : left - n + (es.length + Lts.tot (es.take 0)) ≤ left), Below.refl _ _⟩
  case round =>
    obtain ⟨k, z, hk, hz, rfl, rfl, hsm, hb⟩ := hrel
    by_cases hlt : k < n
    · have hlt2 : k < es.length := by have := HN.out; omega
      obtain ⟨g, off, ha, hg, _, hr⟩ := (hx.out.stays hb.out).2.1 k (by simpa using hlt2)
      obtain ⟨e, he⟩ : ∃ e, e = es[k] := ⟨_, rfl⟩
      have hr2 : wr.rangeAt g (off + k * 17) e.row := by rw [he]; simpa using hr
      have HR : Hid (wr.rangeAt g (off + k * 17) e.row) := hr2
      have HE : Hid (e = es[k]) := he
      have RR : Hid (e.R wr) := by rw [he]; exact (hx.out.stays hb.out).2.2 _ (List.getElem_mem hlt2)
      have LL : Hid e.L := by rw [he]; exact hs.out _ (List.getElem_mem hlt2)
      have ha : a = some ⟨g, off, none⟩ := ha
      subst ha
      have i0 : (0 : Int) ≤ (k : Int) := by omega
      have i1 : (k : Int) < (n : Int) := by omega
      clear hr hr2 he hg
      go_wp2_with (first | (refine wpList_ldN rfl 112 _ rfl g (off + k * 17) (by rfl) e.row HR.out _ Try.underlying112 rfl Try.sizeLLt ?_))
      refine (szLetter_left e z _ RR LL (by omega)).mono ?_
      rintro x w1 ⟨rfl | ⟨r, rfl, hr1⟩, hb1⟩
      · go_wp2_with fail
        go_ret
        exact ⟨.inl rfl, bl_nxt hb.out hb1⟩
      · have B1 : Hid (Below w.heap.size w w1) := bl_nxt hb.out hb1
        have HR1 : Hid (r + e.sz ≤ z) := (by omega : r + e.sz ≤ z)
        have hrz : r ≤ 1048576 := by omega
        have hd : decide ((r : Int) < 0) = false := by simp
        have HS2 : Hid (r + (es.length + Lts.tot (es.take (k + 1))) ≤ left) := by
          have h1 := hsm.out
          have h2 := HR1.out
          have h3 := Lts.tot_take es k hlt2
          rw [← HE.out] at h3
          show _ ≤ _
          omega
        clear hb1 hr1 HR
        go_wp2_with fail
        go_roundw
        case rel => exact ⟨k + 1, r, by omega, hrz, rfl, by go_num, HS2, B1⟩
        case measure => simp [intOf]; omega
    · obtain rfl : k = n := by omega
      go_wp2_with fail
      go_ret
      exact ⟨.inr ⟨z, rfl, by have := hsm.out; rwa [HN.out, List.take_of_length_le (Nat.le_refl _)] at this⟩, hb.out⟩
theorem Try.infoLt : (Try.prog.info? 117).map (fun i => (i.zero, i.size, i.bytes)) = some (some (.agg #[.int .i64 0, .int .i64 0, .int .i64 0, .int .i64 0, .int .i64 0, .int .i64 0, .string ⟨#[]⟩, .int .i64 0, .int .i64 0, .int .i64 0, .int .i64 0, .int .i64 0, .slice none 0 0, .int .i64 0, .int .i64 0, .int .i64 0, .slice none 0 0]), 17, 176) := by kernel_rfl
set_option maxRecDepth 100000 in
set_option maxHeartbeats 8000000 in
theorem toLetters_any (s : Sv) (es : List Lt) (w : World) (hx : Hid (LtsR w s es)) (hl : es.length ≤ 1048576) (hs : Hid (∀ e ∈ es, e.S)) :
    Calls Try.prog 38 #[.slice s.a s.n s.c] w fun x w' => ∃ (u : Sv) (cs : List Lt), x = .returned (.slice u.a u.n u.c) ∧ cs.map Lt.pl = es.map Lt.pl ∧ LtsO w' w.heap.size u cs ∧ LtsUp cs ∧ (∀ b, u.v.ownBlock = some b → b = w.heap.size ∧ ∀ e ∈ cs, ∀ x, e.own x → b < x) ∧ Below w.heap.size w w' := by
  obtain ⟨a, n, c⟩ := s
  dsimp only
  have HN : Hid (n = es.length) := hx.out.1
  have hn : n ≤ 1048576 := by have := HN.out; omega
  clear hl
  obtain ⟨i0, hi, hz0, hz1, hz2⟩ := info_parts Try.infoLt
  obtain ⟨A, hA⟩ : ∃ A : Array Value, A = madeCells (Value.agg #[.int .i64 0, .int .i64 0, .int .i64 0, .int .i64 0, .int .i64 0, .int .i64 0, .string ⟨#[]⟩, .int .i64 0, .int .i64 0, .int .i64 0, .int .i64 0, .int .i64 0, .slice none 0 0, .int .i64 0, .int .i64 0, .int .i64 0, .slice none 0 0]).cells (n * 17) := ⟨_, rfl⟩
  have hmk : ∀ W : World, (Instr.makeSlice 42 (.int .i64 (n : Int)) (.int .i64 (n : Int))).run Try.prog W = .ok (.slice (some ⟨W.heap.size, 0, none⟩) n n) (W.alloc (.cells A 117)) := fun W => by
    have h := run_make (P := Try.prog) W 42 117 i0 _ Try.underlying42 hi hz0 .i64 .i64 (n : Int) (n : Int) (by omega) (by omega) (by rw [hz2]; omega) (by omega)
    rw [hz1, Int.toNat_natCast, ← hA] at h
    simpa using h
  have H0 : Hid (SlN (w.alloc (.cells A 117)) 117 17 w.heap.size (.slice (some ⟨w.heap.size, 0, none⟩) n n) (List.replicate n [.int .i64 0, .int .i64 0, .int .i64 0, .int .i64 0, .int .i64 0, .int .i64 0, .string ⟨#[]⟩, .int .i64 0, .int .i64 0, .int .i64 0, .int .i64 0, .int .i64 0, .slice none 0 0, .int .i64 0, .int .i64 0, .int .i64 0, .slice none 0 0])) := by rw [hA]; exact SlN.zeros w 117 [.int .i64 0, .int .i64 0, .int .i64 0, .int .i64 0, .int .i64 0, .int .i64 0, .string ⟨#[]⟩, .int .i64 0, .int .i64 0, .int .i64 0, .int .i64 0, .int .i64 0, .slice none 0 0, .int .i64 0, .int .i64 0, .int .i64 0, .slice none 0 0] (by simp) rfl n w.heap.size (Nat.le_refl _) hn
  clear hA
  have HB0 : Hid (Below w.heap.size w (w.alloc (.cells A 117))) := (Below.refl _ _).alloc (Nat.le_refl _) _
  have HZ0 : Hid (w.heap.size < (w.alloc (.cells A 117)).heap.size) := (by simp : _ < _)
  go_enter Try.func38, Try.ntmps38
  go_wp2_with fail
  generalize w.alloc (.cells A 117) = W at *
  clear hmk hi hz0 hz1 hz2
  go_loopw [4] (fun i wr => ∃ (k : Nat) (cs : List Lt), k ≤ n ∧ i = .int .i64 k ∧ Hid (cs.length = k) ∧ Hid (cs.map Lt.pl = (es.take k).map Lt.pl) ∧ Hid (SlN wr 117 17 w.heap.size (.slice (some ⟨w.heap.size, 0, none⟩) n n) (cs.map Lt.row ++ List.replicate (n - k) ([.int .i64 0, .int .i64 0, .int .i64 0, .int .i64 0, .int .i64 0, .int .i64 0, .string ⟨#[]⟩, .int .i64 0, .int .i64 0, .int .i64 0, .int .i64 0, .int .i64 0, .slice none 0 0, .int .i64 0, .int .i64 0, .int .i64 0, .slice none 0 0] : List Value))) ∧ Hid (∀ c ∈ cs, c.O wr (w.heap.size + 1)) ∧ Hid (LtsUp cs) ∧ Hid (w.heap.size < wr.heap.size) ∧ Hid (Below w.heap.size w wr)) (fun i _ => n - (intOf i).toNat)
  case atStart => exact ⟨0, [], Nat.zero_le _, rfl, rfl, rfl, (by have h := H0.out; simpa using h : SlN _ _ _ _ _ _), (fun c hc => (by cases hc) : ∀ c ∈ ([] : List Lt), _), ⟨fun e he => (by cases he), List.Pairwise.nil⟩, HZ0, HB0⟩
  case round =>
    obtain ⟨k, cs, hk, rfl, hcl, hpl, hrow, hown, hup, hzl, hb⟩ := hrel
    clear H0 HB0 HZ0
    by_cases hlt : k < n
    · have hlt2 : k < es.length := by have := HN.out; omega
      obtain ⟨g, off, ha, hg, _, hr⟩ := (hx.out.stays hb.out).2.1 k (by simpa using hlt2)
      obtain ⟨e, he⟩ : ∃ e, e = es[k] := ⟨_, rfl⟩
      have hr2 : wr.rangeAt g (off + k * 17) e.row := by rw [he]; simpa using hr
      have HR : Hid (wr.rangeAt g (off + k * 17) e.row) := hr2
      have HE : Hid (e = es[k]) := he
      have RR : Hid (e.R wr) := by rw [he]; exact (hx.out.stays hb.out).2.2 _ (List.getElem_mem hlt2)
      have SS : Hid e.S := by rw [he]; exact hs.out _ (List.getElem_mem hlt2)
      have ha : a = some ⟨g, off, none⟩ := ha
      subst ha
      have i0 : (0 : Int) ≤ (k : Int) := by omega
      have i1 : (k : Int) < (n : Int) := by omega
      clear hr hr2 he hg
      go_wp2_with (first | (refine wpList_ldN rfl 112 _ rfl g (off + k * 17) (by rfl) e.row HR.out _ Try.underlying112 rfl Try.sizeLLt ?_))
      refine (toLetter_any e _ RR SS).mono ?_
      rintro x w1 ⟨u1, u2, rfl, o1, o2, b1⟩
      obtain ⟨c1, hc⟩ : ∃ c : Lt, c = { e with sw := u1, sb := u2 } := ⟨_, rfl⟩
      have CO : Hid (c1.O w1 wr.heap.size) := by rw [hc]; exact ⟨o1, o2⟩
      have CU : Hid c1.Up := by rw [hc]; exact trivial
      have CP : Hid (c1.pl = e.pl) := by rw [hc]; exact rfl
      have CR : Hid (([.int .i64 e.k, .int .i64 e.ad, .int .i64 e.cf, .int .i64 e.q, .int .i64 e.f, .int .i64 e.l, .string e.t, .int .i64 e.tc, .int .i64 e.tr, .int .i64 e.tq, .int .i64 e.ta, .int .i64 e.tb, .slice u1.a u1.n u1.c, .int .i64 e.bf, .int .i64 e.bn, .int .i64 e.bo, .slice u2.a u2.n u2.c] : List Value) = c1.row) := by rw [hc]; rfl
      have B1 : Hid (Below w.heap.size w w1) := bl_nxt hb.out b1
      have R1 : Hid (SlN w1 117 17 w.heap.size (.slice (some ⟨w.heap.size, 0, none⟩) n n) (cs.map Lt.row ++ List.replicate (n - k) ([.int .i64 0, .int .i64 0, .int .i64 0, .int .i64 0, .int .i64 0, .int .i64 0, .string ⟨#[]⟩, .int .i64 0, .int .i64 0, .int .i64 0, .int .i64 0, .int .i64 0, .slice none 0 0, .int .i64 0, .int .i64 0, .int .i64 0, .slice none 0 0] : List Value))) := hrow.out.below b1
      have O1 : Hid (∀ c ∈ cs, c.O w1 (w.heap.size + 1)) := fun c hc => (hown.out c hc).below b1
      have LT : Hid (∀ c ∈ cs, ∀ x, c.own x → x < wr.heap.size) := fun c hc x hx => ((hown.out c hc).lt x hx).2
      have ZL : Hid (w.heap.size + 1 ≤ wr.heap.size) := hzl.out
      have ZL1 : Hid (w.heap.size < w1.heap.size) := Nat.lt_of_lt_of_le hzl.out b1.size
      clear HR b1 hrow hown hb hc hzl
      go_wp2_with (first | (with_reducible refine wpList_haltS 117 _ _ rfl ?_))
      refine Stp.go ?_
      have HL : n = (cs.map Lt.row ++ List.replicate (n - k) ([.int .i64 0, .int .i64 0, .int .i64 0, .int .i64 0, .int .i64 0, .int .i64 0, .string ⟨#[]⟩, .int .i64 0, .int .i64 0, .int .i64 0, .int .i64 0, .int .i64 0, .slice none 0 0, .int .i64 0, .int .i64 0, .int .i64 0, .slice none 0 0] : List Value)).length := by have := hcl.out; simp; omega
      have R2 : SlN w1 117 17 w.heap.size (.slice (some ⟨w.heap.size, 0, none⟩) (cs.map Lt.row ++ List.replicate (n - k) ([.int .i64 0, .int .i64 0, .int .i64 0, .int .i64 0, .int .i64 0, .int .i64 0, .string ⟨#[]⟩, .int .i64 0, .int .i64 0, .int .i64 0, .int .i64 0, .int .i64 0, .slice none 0 0, .int .i64 0, .int .i64 0, .int .i64 0, .slice none 0 0] : List Value)).length n) (cs.map Lt.row ++ List.replicate (n - k) ([.int .i64 0, .int .i64 0, .int .i64 0, .int .i64 0, .int .i64 0, .int .i64 0, .string ⟨#[]⟩, .int .i64 0, .int .i64 0, .int .i64 0, .int .i64 0, .int .i64 0, .slice none 0 0, .int .i64 0, .int .i64 0, .int .i64 0, .slice none 0 0] : List Value)) := by rw [← HL]; exact R1.out
      refine wpList_stN (i := k) rfl 117 _ _ rfl R2 (by rw [← HL]; exact hlt) (by rw [Nat.zero_add]; rfl) ([.int .i64 e.k, .int .i64 e.ad, .int .i64 e.cf, .int .i64 e.q, .int .i64 e.f, .int .i64 e.l, .string e.t, .int .i64 e.tc, .int .i64 e.tr, .int .i64 e.tq, .int .i64 e.ta, .int .i64 e.tb, .slice u1.a u1.n u1.c, .int .i64 e.bf, .int .i64 e.bn, .int .i64 e.bo, .slice u2.a u2.n u2.c]) rfl rfl rfl Try.sizeLt9 ?_
      intro w2 R3 T3
      rw [← HL, CR.out] at R3
      have e3 : (cs.map Lt.row ++ List.replicate (n - k) ([.int .i64 0, .int .i64 0, .int .i64 0, .int .i64 0, .int .i64 0, .int .i64 0, .string ⟨#[]⟩, .int .i64 0, .int .i64 0, .int .i64 0, .int .i64 0, .int .i64 0, .slice none 0 0, .int .i64 0, .int .i64 0, .int .i64 0, .slice none 0 0] : List Value)).set k c1.row = (cs ++ [c1]).map Lt.row ++ List.replicate (n - (k + 1)) ([.int .i64 0, .int .i64 0, .int .i64 0, .int .i64 0, .int .i64 0, .int .i64 0, .string ⟨#[]⟩, .int .i64 0, .int .i64 0, .int .i64 0, .int .i64 0, .int .i64 0, .slice none 0 0, .int .i64 0, .int .i64 0, .int .i64 0, .slice none 0 0] : List Value) := by
        have h := set_snoc (cs.map Lt.row) [.int .i64 0, .int .i64 0, .int .i64 0, .int .i64 0, .int .i64 0, .int .i64 0, .string ⟨#[]⟩, .int .i64 0, .int .i64 0, .int .i64 0, .int .i64 0, .int .i64 0, .slice none 0 0, .int .i64 0, .int .i64 0, .int .i64 0, .slice none 0 0] c1.row (n - (k + 1))
        rw [show n - (k + 1) + 1 = n - k by omega, List.length_map, hcl.out] at h
        rw [h, List.map_append]
        rfl
      rw [e3] at R3
      have R4 : Hid (SlN w2 117 17 w.heap.size (.slice (some ⟨w.heap.size, 0, none⟩) n n) ((cs ++ [c1]).map Lt.row ++ List.replicate (n - (k + 1)) ([.int .i64 0, .int .i64 0, .int .i64 0, .int .i64 0, .int .i64 0, .int .i64 0, .string ⟨#[]⟩, .int .i64 0, .int .i64 0, .int .i64 0, .int .i64 0, .int .i64 0, .slice none 0 0, .int .i64 0, .int .i64 0, .int .i64 0, .slice none 0 0] : List Value))) := R3
      have T4 : Hid (TurnAt w.heap.size w1 w2) := T3
      clear R1 R2 R3 T3 HL e3 CR
      go_wp2_with fail
      go_roundw
      case rel =>
        have kp : ∀ c : Lt, c.O w1 (w.heap.size + 1) → c.O w2 (w.heap.size + 1) := fun c h => h.keep fun b hb _ => T4.out.block b (by omega)
        refine ⟨k + 1, cs ++ [c1], by omega, by go_num, (by have := hcl.out; simp; omega : _ = _), ?_, R4, fun x hx => ?_, ⟨fun x hx => ?_, ?_⟩, (by have h := T4.out.size; have := ZL1.out; omega : _ < _), B1.out.trans (T4.out.below (Nat.le_refl _))⟩
        · show _ = _
          rw [List.map_append, hpl.out, List.take_succ_eq_append_getElem hlt2, List.map_append, ← HE.out]
          simp [CP.out]
        · rcases List.mem_append.1 hx with h | h
          · exact kp _ (O1.out x h)
          · rw [List.mem_singleton.1 h]; exact kp _ (CO.out.down ZL.out)
        · rcases List.mem_append.1 hx with h | h
          · exact hup.out.1 x h
          · rw [List.mem_singleton.1 h]; exact CU.out
        · refine List.pairwise_append.2 ⟨hup.out.2, List.pairwise_singleton _ _, fun a ha b hb x y hx hy => ?_⟩
          rw [List.mem_singleton.1 hb] at hy
          have h1 := LT.out a ha x hx
          have h2 := (CO.out.lt y hy).1
          omega
      case measure => simp [intOf]; omega
    · obtain rfl : k = n := by omega
      go_wp2_with fail
      go_ret
      have hr := hrow.out
      rw [Nat.sub_self, List.replicate_zero, List.append_nil] at hr
      refine ⟨⟨some ⟨w.heap.size, 0, none⟩, _, _⟩, cs, rfl, ?_, ⟨hr, fun e he => (hown.out e he).down (Nat.le_succ _)⟩, hup.out, fun b hb => ?_, hb.out⟩
      · have h := hpl.out
        rwa [HN.out, List.take_of_length_le (Nat.le_refl _)] at h
      · simp [Sv.v, Value.ownBlock] at hb
        subst hb
        exact ⟨rfl, fun e he x hx => by have := ((hown.out e he).lt x hx).1; omega⟩
end Go.Proofs.Ytdodeillifoibaa


/- Lists of daemons, of letters, held against each other. Written by gen_lt.py. -/
namespace Go.Proofs.Ytdodeillifoibaa
open Go.RowKit Pl
set_option linter.unusedVariables false
set_option linter.unusedSimpArgs false

theorem eqDms_any (s1 s2 : Sv) (es fs : List Dm) (B1 B2 : Nat) (w : World) (h1 : Hid (DmsO w B1 s1 es)) (h2 : Hid (DmsO w B2 s2 fs)) (hfl : fs.length = es.length) (hsm : Hid (∀ j (a : j < es.length) (b : j < fs.length), (es[j]).Same (fs[j]))) (hl : es.length ≤ 1048576) (hs : Hid (∀ e ∈ es, DmS e)) :
    Calls Try.prog 43 #[.slice s1.a s1.n s1.c, .slice s2.a s2.n s2.c] w fun x w' => x = .returned (.bool true) ∧ Below w.heap.size w w' := by
  have n1 : s1.n = es.length := by have := h1.out.1.slen; simpa using this
  have n2 : s2.n = es.length := by have := h2.out.1.slen; simp at this; omega
  rw [n1, n2]
  refine eqdaemons_sp s1.a s2.a es.length s1.c s2.c (fun j => ((es.map Dm.row)[j]?).getD []) (fun j => ((fs.map Dm.row)[j]?).getD []) w (fun j hj => rowsAt h1.out.1 j (by simpa using hj)) (fun j hj => rowsAt h2.out.1 j (by simpa [hfl] using hj)) ?_ (by omega)
  intro j hj W b
  have hj2 : j < fs.length := by omega
  have e1 : ((es.map Dm.row)[j]?).getD [] = es[j].row := by simp [hj]
  have e2 : ((fs.map Dm.row)[j]?).getD [] = fs[j].row := by simp [hj2]
  try dsimp only
  rw [e1, e2]
  exact eqDaemon_any es[j] fs[j] B1 B2 W ((h1.out.2 _ (List.getElem_mem hj)).below b) ((h2.out.2 _ (List.getElem_mem hj2)).below b) (hsm.out j hj hj2) (hs.out _ (List.getElem_mem hj))
theorem eqLts_any (s1 s2 : Sv) (es fs : List Lt) (B1 B2 : Nat) (w : World) (h1 : Hid (LtsO w B1 s1 es)) (h2 : Hid (LtsO w B2 s2 fs)) (hpl : Hid (es.map Lt.pl = fs.map Lt.pl)) (hl : es.length ≤ 1048576) (hs : Hid (∀ e ∈ es, e.S)) :
    Calls Try.prog 44 #[.slice s1.a s1.n s1.c, .slice s2.a s2.n s2.c] w fun x w' => x = .returned (.bool true) ∧ Below w.heap.size w w' := by
  have n1 : s1.n = es.length := by have := h1.out.1.slen; simpa using this
  have hfl : fs.length = es.length := by have := congrArg List.length hpl.out; simp at this; omega
  have n2 : s2.n = es.length := by have := h2.out.1.slen; simp at this; omega
  rw [n1, n2]
  refine eqletters_sp s1.a s2.a es.length s1.c s2.c (fun j => ((es.map Lt.row)[j]?).getD []) (fun j => ((fs.map Lt.row)[j]?).getD []) w (fun j hj => rowsAt h1.out.1 j (by simpa using hj)) (fun j hj => rowsAt h2.out.1 j (by simpa [hfl] using hj)) ?_ (by omega)
  intro j hj W b
  have hj2 : j < fs.length := by omega
  have e1 : ((es.map Lt.row)[j]?).getD [] = es[j].row := by simp [hj]
  have e2 : ((fs.map Lt.row)[j]?).getD [] = fs[j].row := by simp [hj2]
  have hp : es[j].pl = fs[j].pl := by
    have h := congrArg (fun l => l[j]?) hpl.out
    simpa [hj, hj2] using h
  try dsimp only
  rw [e1, e2]
  have o1 := (h1.out.2 _ (List.getElem_mem hj)).below b
  have o2 := (h2.out.2 _ (List.getElem_mem hj2)).below b
  obtain ⟨e, he⟩ : ∃ e, e = es[j] := ⟨_, rfl⟩
  obtain ⟨f, hf⟩ : ∃ f, f = fs[j] := ⟨_, rfl⟩
  have hS := hs.out _ (List.getElem_mem hj)
  rw [← he] at o1 hS hp
  rw [← hf] at o2 hp
  rw [← he, ← hf]
  obtain ⟨k, ad, cf, q, ff, l, t, tc, tr, tq, ta, tb, ws, bf, bn, bo, ts, sw, sb⟩ := f
  simp only [Lt.pl, Prod.mk.injEq] at hp
  obtain ⟨⟨rfl, rfl, rfl⟩, ⟨rfl, rfl, rfl, rfl⟩, ⟨rfl, rfl, rfl, rfl, rfl, rfl⟩, rfl, rfl, rfl, rfl⟩ := hp
  exact eqLetter_any e e.sw e.sb sw sb W hS (OwnI.down o1.1 (Nat.zero_le _)) (Sl.down o1.2 (Nat.zero_le _)) (OwnI.down o2.1 (Nat.zero_le _)) (Sl.down o2.2 (Nat.zero_le _))
end Go.Proofs.Ytdodeillifoibaa


/- Lists of rings that a law measures and copies. Written by gen_rg.py. -/
namespace Go.Proofs.Ytdodeillifoibaa
open Go.RowKit Pl
set_option linter.unusedVariables false
set_option linter.unusedSimpArgs false

/-- a ring, and where its list lies. -/
structure Rn where
  id : Int
  ms : List Int
  s : Sv
def Rn.pl (r : Rn) : Int × List Int := (r.id, r.ms)
def Rn.row (r : Rn) : List Value := [.int .i64 r.id, .slice r.s.a r.s.n r.s.c]
def Rn.R (w : World) (r : Rn) : Prop := RI w r.s.v r.ms
theorem Rn.R.stays {w w' : World} {b : Rn} (h : b.R w) (hb : Below w.heap.size w w') : b.R w' := RI.stays h hb
def Rn.S (b : Rn) : Prop := b.ms.length ≤ 1048576
def Rn.L (b : Rn) : Prop := b.ms.length ≤ 9223372036854775807
def Rn.sz (b : Rn) : Nat := b.ms.length
def Rn.O (w : World) (B : Nat) (b : Rn) : Prop := OwnI w B b.s.v b.ms
theorem Rn.O.r {w : World} {B : Nat} {b : Rn} (h : b.O w B) : b.R w := OwnI.ri h
theorem Rn.O.keep {w w' : World} {B : Nat} {e : Rn} (h : e.O w B) (hk : ∀ b, B ≤ b → b < w.heap.size → w'.heap[b]? = w.heap[b]?) : e.O w' B := OwnI.keep h fun b hb hl => hk b (OwnI.lt h b hb).1 hl
theorem Rn.O.below {w w' : World} {B : Nat} {e : Rn} (h : e.O w B) (b : Below w.heap.size w w') : e.O w' B := h.keep fun k _ hk => b.block k hk
theorem Rn.O.down {w : World} {B B' : Nat} {e : Rn} (h : e.O w B) (hB : B' ≤ B) : e.O w B' := OwnI.down h hB
def Rn.own (e : Rn) (x : Nat) : Prop := e.s.v.ownBlock = some x
theorem Rn.O.lt {w : World} {B : Nat} {e : Rn} (h : e.O w B) (x : Nat) (hx : e.own x) : B ≤ x ∧ x < w.heap.size := OwnI.lt h x hx
def Rn.Up (e : Rn) : Prop := True
theorem szRn_any (e : Rn) (L : Nat) (w : World) (h : Hid (e.R w)) (hl : Hid e.L) (hL : L ≤ 1048576) :
    Calls Try.prog 50 #[.agg #[.int .i64 e.id, .slice e.s.a e.s.n e.s.c], .int .i64 L] w fun x w' => (x = .returned (.int .i64 (-1)) ∨ ∃ r : Nat, x = .returned (.int .i64 r) ∧ r + e.sz ≤ L) ∧ Below w.heap.size w w' := by
  have hn : e.s.n = e.ms.length := RI.len h.out
  refine (szRing_left e.id e.s.a e.s.n e.s.c L w hL (by rw [hn]; exact hl.out)).mono fun x w' ⟨a, b⟩ => ⟨a.imp id fun ⟨r, h1, h2⟩ => ⟨r, h1, by unfold Rn.sz; omega⟩, b⟩
theorem Try.sizeLRn : (Try.prog.info? 51).map (·.size) = some 2 := by kernel_rfl
theorem Try.sizeRn : (Try.prog.info? 56).map (·.size) = some 2 := by kernel_rfl
theorem toRn_any (e : Rn) (w : World) (h : Hid (e.R w)) (hs : e.S) :
    Calls Try.prog 53 #[.agg #[.int .i64 e.id, .slice e.s.a e.s.n e.s.c]] w fun x w' => ∃ u : Sv, x = .returned (.agg #[.int .i64 e.id, .slice u.a u.n u.c]) ∧ OwnI w' w.heap.size u.v e.ms ∧ Below w.heap.size w w' := by
  refine (toRing_r e.id e.s e.ms w h hs).mono ?_
  rintro x w' ⟨u, rfl, h1, h2⟩
  exact ⟨u, rfl, h1, h2⟩
/-- a list of them that is read. -/
def RnsR (w : World) (s : Sv) (es : List Rn) : Prop := s.n = es.length ∧ RwA w s.a 2 (es.map Rn.row) ∧ ∀ e ∈ es, e.R w
theorem RnsR.stays {w w' : World} {s : Sv} {es : List Rn} (h : RnsR w s es) (b : Below w.heap.size w w') : RnsR w' s es := ⟨h.1, h.2.1.stays b, fun e he => (h.2.2 e he).stays b⟩
/-- a list of the call's own. -/
def RnsO (w : World) (B : Nat) (s : Sv) (es : List Rn) : Prop := SlN w 56 2 B s.v (es.map Rn.row) ∧ ∀ e ∈ es, e.O w B
theorem RnsO.r {w : World} {B : Nat} {s : Sv} {es : List Rn} (h : RnsO w B s es) : RnsR w s es := ⟨by have := h.1.slen; simpa using this, h.1.rwa, fun e he => (h.2 e he).r⟩
theorem RnsO.keep {w w' : World} {B : Nat} {s : Sv} {es : List Rn} (h : RnsO w B s es) (hk : ∀ b, B ≤ b → b < w.heap.size → w'.heap[b]? = w.heap[b]?) : RnsO w' B s es := ⟨h.1.keep fun b hb hl => hk b (h.1.lt b hb).1 hl, fun e he => (h.2 e he).keep hk⟩
theorem RnsO.below {w w' : World} {B : Nat} {s : Sv} {es : List Rn} (h : RnsO w B s es) (b : Below w.heap.size w w') : RnsO w' B s es := h.keep fun k _ hk => b.block k hk
theorem RnsO.down {w : World} {B B' : Nat} {s : Sv} {es : List Rn} (h : RnsO w B s es) (hB : B' ≤ B) : RnsO w B' s es := ⟨h.1.down hB, fun e he => (h.2 e he).down hB⟩
theorem RnsO.nil (w : World) (B : Nat) : RnsO w B zSv [] := ⟨SlN.nil _ _ _ _, fun e he => by cases he⟩
/-- each one's lists lie behind those of the ones ahead. -/
def RnsUp (es : List Rn) : Prop := (∀ e ∈ es, e.Up) ∧ es.Pairwise fun a b => ∀ x y, a.own x → b.own y → x < y
def Rns.tot (es : List Rn) : Nat := (es.map fun e => e.sz).sum
theorem Rns.tot_take (es : List Rn) (k : Nat) (hk : k < es.length) : Rns.tot (es.take (k + 1)) = Rns.tot (es.take k) + es[k].sz := by
  unfold Rns.tot
  rw [List.take_succ_eq_append_getElem hk, List.map_append, List.sum_append]
  simp

set_option maxRecDepth 100000 in
set_option maxHeartbeats 4000000 in
theorem szRings_any (s : Sv) (es : List Rn) (left : Nat) (w : World) (hx : Hid (RnsR w s es)) (hleft : left ≤ 1048576) (hl : es.length ≤ 9223372036854775807) (hs : Hid (∀ e ∈ es, e.L)) :
    Calls Try.prog 33 #[.slice s.a s.n s.c, .int .i64 left] w fun x w' => (x = .returned (.int .i64 (-1)) ∨ ∃ z : Nat, x = .returned (.int .i64 z) ∧ Hid (z + (es.length + Rns.tot es) ≤ left)) ∧ Below w.heap.size w w' := by
  obtain ⟨a, n, c⟩ := s
  dsimp only
  have HN : Hid (n = es.length) := hx.out.1
  have hn : n ≤ 9223372036854775807 := by have := HN.out; omega
  clear hl
  by_cases h1 : left < n
  · have hd : decide ((left : Int) - (n : Int) < 0) = true := by simp; omega
    go_enter Try.func33, Try.ntmps33
    go_wp2_with fail
    go_ret
    exact ⟨.inl rfl, Below.refl _ _⟩
  have hd : decide ((left : Int) - (n : Int) < 0) = false := by simp; omega
  go_enter Try.func33, Try.ntmps33
  go_wp2_with fail
  clear hd
  go_loopw [1, 5] (fun lf i wr => ∃ (k z : Nat), k ≤ n ∧ z ≤ 1048576 ∧ lf = .int .i64 z ∧ i = .int .i64 k ∧ Hid (z + (es.length + Rns.tot (es.take k)) ≤ left) ∧ Hid (Below w.heap.size w wr)) (fun _ i _ => n - (intOf i).toNat)
  case atStart => exact ⟨0, left - n, Nat.zero_le _, by omega, by congr 1; omega, rfl, (by have := HN.out; simp [Rns.tot]; omega : left - n + (es.length + Rns.tot (es.take 0)) ≤ left), Below.refl _ _⟩
  case round =>
    obtain ⟨k, z, hk, hz, rfl, rfl, hsm, hb⟩ := hrel
    by_cases hlt : k < n
    · have hlt2 : k < es.length := by have := HN.out; omega
      obtain ⟨g, off, ha, hg, _, hr⟩ := (hx.out.stays hb.out).2.1 k (by simpa using hlt2)
      obtain ⟨e, he⟩ : ∃ e, e = es[k] := ⟨_, rfl⟩
      have hr2 : wr.rangeAt g (off + k * 2) e.row := by rw [he]; simpa using hr
      have HR : Hid (wr.rangeAt g (off + k * 2) e.row) := hr2
      have HE : Hid (e = es[k]) := he
      have RR : Hid (e.R wr) := by rw [he]; exact (hx.out.stays hb.out).2.2 _ (List.getElem_mem hlt2)
      have LL : Hid e.L := by rw [he]; exact hs.out _ (List.getElem_mem hlt2)
      have ha : a = some ⟨g, off, none⟩ := ha
      subst ha
      have i0 : (0 : Int) ≤ (k : Int) := by omega
      have i1 : (k : Int) < (n : Int) := by omega
      clear hr hr2 he hg
      go_wp2_with (first | (refine wpList_ldN rfl 51 _ rfl g (off + k * 2) (by rfl) e.row HR.out _ Try.underlying51 rfl Try.sizeLRn ?_))
      refine (szRn_any e z _ RR LL (by omega)).mono ?_
      rintro x w1 ⟨rfl | ⟨r, rfl, hr1⟩, hb1⟩
      · go_wp2_with fail
        go_ret
        exact ⟨.inl rfl, bl_nxt hb.out hb1⟩
      · have B1 : Hid (Below w.heap.size w w1) := bl_nxt hb.out hb1
        have HR1 : Hid (r + e.sz ≤ z) := (by omega : r + e.sz ≤ z)
        have hrz : r ≤ 1048576 := by omega
        have hd : decide ((r : Int) < 0) = false := by simp
        have HS2 : Hid (r + (es.length + Rns.tot (es.take (k + 1))) ≤ left) := by
          have h1 := hsm.out
          have h2 := HR1.out
          have h3 := Rns.tot_take es k hlt2
          rw [← HE.out] at h3
          show _ ≤ _
          omega
        clear hb1 hr1 HR
        go_wp2_with fail
        go_roundw
        case rel => exact ⟨k + 1, r, by omega, hrz, rfl, by go_num, HS2, B1⟩
        case measure => simp [intOf]; omega
    · obtain rfl : k = n := by omega
      go_wp2_with fail
      go_ret
      exact ⟨.inr ⟨z, rfl, by have := hsm.out; rwa [HN.out, List.take_of_length_le (Nat.le_refl _)] at this⟩, hb.out⟩
theorem Try.infoRn : (Try.prog.info? 56).map (fun i => (i.zero, i.size, i.bytes)) = some (some (.agg #[.int .i64 0, .slice none 0 0]), 2, 32) := by kernel_rfl
set_option maxRecDepth 100000 in
set_option maxHeartbeats 8000000 in
theorem toRings_any (s : Sv) (es : List Rn) (w : World) (hx : Hid (RnsR w s es)) (hl : es.length ≤ 1048576) (hs : Hid (∀ e ∈ es, e.S)) :
    Calls Try.prog 36 #[.slice s.a s.n s.c] w fun x w' => ∃ (u : Sv) (cs : List Rn), x = .returned (.slice u.a u.n u.c) ∧ cs.map Rn.pl = es.map Rn.pl ∧ RnsO w' w.heap.size u cs ∧ RnsUp cs ∧ (∀ b, u.v.ownBlock = some b → b = w.heap.size ∧ ∀ e ∈ cs, ∀ x, e.own x → b < x) ∧ Below w.heap.size w w' := by
  obtain ⟨a, n, c⟩ := s
  dsimp only
  have HN : Hid (n = es.length) := hx.out.1
  have hn : n ≤ 1048576 := by have := HN.out; omega
  clear hl
  obtain ⟨i0, hi, hz0, hz1, hz2⟩ := info_parts Try.infoRn
  obtain ⟨A, hA⟩ : ∃ A : Array Value, A = madeCells (Value.agg #[.int .i64 0, .slice none 0 0]).cells (n * 2) := ⟨_, rfl⟩
  have hmk : ∀ W : World, (Instr.makeSlice 40 (.int .i64 (n : Int)) (.int .i64 (n : Int))).run Try.prog W = .ok (.slice (some ⟨W.heap.size, 0, none⟩) n n) (W.alloc (.cells A 56)) := fun W => by
    have h := run_make (P := Try.prog) W 40 56 i0 _ Try.underlying40 hi hz0 .i64 .i64 (n : Int) (n : Int) (by omega) (by omega) (by rw [hz2]; omega) (by omega)
    rw [hz1, Int.toNat_natCast, ← hA] at h
    simpa using h
  have H0 : Hid (SlN (w.alloc (.cells A 56)) 56 2 w.heap.size (.slice (some ⟨w.heap.size, 0, none⟩) n n) (List.replicate n [.int .i64 0, .slice none 0 0])) := by rw [hA]; exact SlN.zeros w 56 [.int .i64 0, .slice none 0 0] (by simp) rfl n w.heap.size (Nat.le_refl _) hn
  clear hA
  have HB0 : Hid (Below w.heap.size w (w.alloc (.cells A 56))) := (Below.refl _ _).alloc (Nat.le_refl _) _
  have HZ0 : Hid (w.heap.size < (w.alloc (.cells A 56)).heap.size) := (by simp : _ < _)
  go_enter Try.func36, Try.ntmps36
  go_wp2_with fail
  generalize w.alloc (.cells A 56) = W at *
  clear hmk hi hz0 hz1 hz2
  go_loopw [4] (fun i wr => ∃ (k : Nat) (cs : List Rn), k ≤ n ∧ i = .int .i64 k ∧ Hid (cs.length = k) ∧ Hid (cs.map Rn.pl = (es.take k).map Rn.pl) ∧ Hid (SlN wr 56 2 w.heap.size (.slice (some ⟨w.heap.size, 0, none⟩) n n) (cs.map Rn.row ++ List.replicate (n - k) ([.int .i64 0, .slice none 0 0] : List Value))) ∧ Hid (∀ c ∈ cs, c.O wr (w.heap.size + 1)) ∧ Hid (RnsUp cs) ∧ Hid (w.heap.size < wr.heap.size) ∧ Hid (Below w.heap.size w wr)) (fun i _ => n - (intOf i).toNat)
  case atStart => exact ⟨0, [], Nat.zero_le _, rfl, rfl, rfl, (by have h := H0.out; simpa using h : SlN _ _ _ _ _ _), (fun c hc => (by cases hc) : ∀ c ∈ ([] : List Rn), _), ⟨fun e he => (by cases he), List.Pairwise.nil⟩, HZ0, HB0⟩
  case round =>
    obtain ⟨k, cs, hk, rfl, hcl, hpl, hrow, hown, hup, hzl, hb⟩ := hrel
    clear H0 HB0 HZ0
    by_cases hlt : k < n
    · have hlt2 : k < es.length := by have := HN.out; omega
      obtain ⟨g, off, ha, hg, _, hr⟩ := (hx.out.stays hb.out).2.1 k (by simpa using hlt2)
      obtain ⟨e, he⟩ : ∃ e, e = es[k] := ⟨_, rfl⟩
      have hr2 : wr.rangeAt g (off + k * 2) e.row := by rw [he]; simpa using hr
      have HR : Hid (wr.rangeAt g (off + k * 2) e.row) := hr2
      have HE : Hid (e = es[k]) := he
      have RR : Hid (e.R wr) := by rw [he]; exact (hx.out.stays hb.out).2.2 _ (List.getElem_mem hlt2)
      have SS : Hid e.S := by rw [he]; exact hs.out _ (List.getElem_mem hlt2)
      have ha : a = some ⟨g, off, none⟩ := ha
      subst ha
      have i0 : (0 : Int) ≤ (k : Int) := by omega
      have i1 : (k : Int) < (n : Int) := by omega
      clear hr hr2 he hg
      go_wp2_with (first | (refine wpList_ldN rfl 51 _ rfl g (off + k * 2) (by rfl) e.row HR.out _ Try.underlying51 rfl Try.sizeLRn ?_))
      refine (toRn_any e _ RR SS.out).mono ?_
      rintro x w1 ⟨u1, rfl, o1, b1⟩
      obtain ⟨c1, hc⟩ : ∃ c : Rn, c = { e with s := u1 } := ⟨_, rfl⟩
      have CO : Hid (c1.O w1 wr.heap.size) := by rw [hc]; exact o1
      have CU : Hid c1.Up := by rw [hc]; exact trivial
      have CP : Hid (c1.pl = e.pl) := by rw [hc]; exact rfl
      have CR : Hid (([.int .i64 e.id, .slice u1.a u1.n u1.c] : List Value) = c1.row) := by rw [hc]; rfl
      have B1 : Hid (Below w.heap.size w w1) := bl_nxt hb.out b1
      have R1 : Hid (SlN w1 56 2 w.heap.size (.slice (some ⟨w.heap.size, 0, none⟩) n n) (cs.map Rn.row ++ List.replicate (n - k) ([.int .i64 0, .slice none 0 0] : List Value))) := hrow.out.below b1
      have O1 : Hid (∀ c ∈ cs, c.O w1 (w.heap.size + 1)) := fun c hc => (hown.out c hc).below b1
      have LT : Hid (∀ c ∈ cs, ∀ x, c.own x → x < wr.heap.size) := fun c hc x hx => ((hown.out c hc).lt x hx).2
      have ZL : Hid (w.heap.size + 1 ≤ wr.heap.size) := hzl.out
      have ZL1 : Hid (w.heap.size < w1.heap.size) := Nat.lt_of_lt_of_le hzl.out b1.size
      clear HR b1 hrow hown hb hc hzl
      go_wp2_with (first | (with_reducible refine wpList_haltS 56 _ _ rfl ?_))
      refine Stp.go ?_
      have HL : n = (cs.map Rn.row ++ List.replicate (n - k) ([.int .i64 0, .slice none 0 0] : List Value)).length := by have := hcl.out; simp; omega
      have R2 : SlN w1 56 2 w.heap.size (.slice (some ⟨w.heap.size, 0, none⟩) (cs.map Rn.row ++ List.replicate (n - k) ([.int .i64 0, .slice none 0 0] : List Value)).length n) (cs.map Rn.row ++ List.replicate (n - k) ([.int .i64 0, .slice none 0 0] : List Value)) := by rw [← HL]; exact R1.out
      refine wpList_stN (i := k) rfl 56 _ _ rfl R2 (by rw [← HL]; exact hlt) (by rw [Nat.zero_add]; rfl) ([.int .i64 e.id, .slice u1.a u1.n u1.c]) rfl rfl rfl Try.sizeRn ?_
      intro w2 R3 T3
      rw [← HL, CR.out] at R3
      have e3 : (cs.map Rn.row ++ List.replicate (n - k) ([.int .i64 0, .slice none 0 0] : List Value)).set k c1.row = (cs ++ [c1]).map Rn.row ++ List.replicate (n - (k + 1)) ([.int .i64 0, .slice none 0 0] : List Value) := by
        have h := set_snoc (cs.map Rn.row) [.int .i64 0, .slice none 0 0] c1.row (n - (k + 1))
        rw [show n - (k + 1) + 1 = n - k by omega, List.length_map, hcl.out] at h
        rw [h, List.map_append]
        rfl
      rw [e3] at R3
      have R4 : Hid (SlN w2 56 2 w.heap.size (.slice (some ⟨w.heap.size, 0, none⟩) n n) ((cs ++ [c1]).map Rn.row ++ List.replicate (n - (k + 1)) ([.int .i64 0, .slice none 0 0] : List Value))) := R3
      have T4 : Hid (TurnAt w.heap.size w1 w2) := T3
      clear R1 R2 R3 T3 HL e3 CR
      go_wp2_with fail
      go_roundw
      case rel =>
        have kp : ∀ c : Rn, c.O w1 (w.heap.size + 1) → c.O w2 (w.heap.size + 1) := fun c h => h.keep fun b hb _ => T4.out.block b (by omega)
        refine ⟨k + 1, cs ++ [c1], by omega, by go_num, (by have := hcl.out; simp; omega : _ = _), ?_, R4, fun x hx => ?_, ⟨fun x hx => ?_, ?_⟩, (by have h := T4.out.size; have := ZL1.out; omega : _ < _), B1.out.trans (T4.out.below (Nat.le_refl _))⟩
        · show _ = _
          rw [List.map_append, hpl.out, List.take_succ_eq_append_getElem hlt2, List.map_append, ← HE.out]
          simp [CP.out]
        · rcases List.mem_append.1 hx with h | h
          · exact kp _ (O1.out x h)
          · rw [List.mem_singleton.1 h]; exact kp _ (CO.out.down ZL.out)
        · rcases List.mem_append.1 hx with h | h
          · exact hup.out.1 x h
          · rw [List.mem_singleton.1 h]; exact CU.out
        · refine List.pairwise_append.2 ⟨hup.out.2, List.pairwise_singleton _ _, fun a ha b hb x y hx hy => ?_⟩
          rw [List.mem_singleton.1 hb] at hy
          have h1 := LT.out a ha x hx
          have h2 := (CO.out.lt y hy).1
          omega
      case measure => simp [intOf]; omega
    · obtain rfl : k = n := by omega
      go_wp2_with fail
      go_ret
      have hr := hrow.out
      rw [Nat.sub_self, List.replicate_zero, List.append_nil] at hr
      refine ⟨⟨some ⟨w.heap.size, 0, none⟩, _, _⟩, cs, rfl, ?_, ⟨hr, fun e he => (hown.out e he).down (Nat.le_succ _)⟩, hup.out, fun b hb => ?_, hb.out⟩
      · have h := hpl.out
        rwa [HN.out, List.take_of_length_le (Nat.le_refl _)] at h
      · simp [Sv.v, Value.ownBlock] at hb
        subst hb
        exact ⟨rfl, fun e he x hx => by have := ((hown.out e he).lt x hx).1; omega⟩
end Go.Proofs.Ytdodeillifoibaa


/- Lists of rings, held against each other. Written by gen_gs.py. -/
namespace Go.Proofs.Ytdodeillifoibaa
open Go.RowKit Pl
set_option linter.unusedVariables false
set_option linter.unusedSimpArgs false

set_option maxRecDepth 100000 in
set_option maxHeartbeats 4000000 in
theorem eqrings_sp (ao bo : Option Addr) (len c1 c2 : Nat) (r1 r2 : Nat → List Value) (w : World) (h1 : Hid (∀ j, j < len → ∃ g off, ao = some ⟨g, off, none⟩ ∧ g < w.heap.size ∧ (r1 j).length = 2 ∧ w.rangeAt g (off + j * 2) (r1 j))) (h2 : Hid (∀ j, j < len → ∃ g off, bo = some ⟨g, off, none⟩ ∧ g < w.heap.size ∧ (r2 j).length = 2 ∧ w.rangeAt g (off + j * 2) (r2 j))) (hE : Hid (∀ j, j < len → ∀ W, Below w.heap.size w W → Calls Try.prog 57 #[.agg (r1 j).toArray, .agg (r2 j).toArray] W fun e w' => e = .returned (.bool true) ∧ Below W.heap.size W w')) (hl : len ≤ 39999990) :
    Calls Try.prog 42 #[.slice ao len c1, .slice bo len c2] w fun e w' => e = .returned (.bool true) ∧ Below w.heap.size w w' := by
  go_enter Try.func42, Try.ntmps42
  go_wp2_with fail
  go_loopw [5] (fun i wr => ∃ (j : Nat), j ≤ len ∧ i = .int .i64 (j : Int) ∧ Hid (Below w.heap.size w wr)) (fun i _ => len - (intOf i).toNat)
  case atStart => exact ⟨0, by omega, rfl, Below.refl _ _⟩
  case round =>
    obtain ⟨j, hj, rfl, HB⟩ := hrel
    by_cases hlt : j < len
    · obtain ⟨g1, o1, rfl, l1, n1, x1⟩ := h1.out j hlt
      obtain ⟨g2, o2, rfl, l2, n2, x2⟩ := h2.out j hlt
      have X1 : Hid (w.rangeAt g1 (o1 + j * 2) (r1 j)) := x1
      have X2 : Hid (w.rangeAt g2 (o2 + j * 2) (r2 j)) := x2
      have N1 : Hid ((Try.prog.info? 56).map (·.size) = some (r1 j).length) := (by rw [n1]; exact Try.sizeRn : _ = _)
      have N2 : Hid ((Try.prog.info? 56).map (·.size) = some (r2 j).length) := (by rw [n2]; exact Try.sizeRn : _ = _)
      clear x1 x2 n1 n2
      have EJ : Hid _ := hE.out j hlt
      have i0 : (0 : Int) ≤ (j : Int) := by omega
      have i1 : (j : Int) < (len : Int) := by omega
      go_wp2_with fail
      have c : Below w.heap.size w wr.drew := HB.out.drew
      refine wp_region_held_drew (S := fun w' => Below w.heap.size w w') (by kernel_rfl) c (fun hHeld => ?_)
      refine wpAnyH_take (i := 0) (v := ?v0b1) rfl (by kernel_rfl) (by kernel_rfl) (by kernel_rfl) (fun _ _ _ h => h) (Or.inl ⟨by rfl, ?hy0b1⟩) (by assumption) ?_
      case hy0b1 => (intro w hSw; (try dsimp only at hSw); simp only [List.getElem_toArray, List.getElem_cons_zero, List.getElem_cons_succ]; go_simp; try with_reducible rfl)
      try simp only [Act.put, List.getElem_toArray, List.getElem_cons_zero, List.getElem_cons_succ, List.setIfInBounds_toArray, List.set_cons_zero, List.set_cons_succ]
      refine wpAnyH_take (i := 1) (v := ?v1b2) rfl (by kernel_rfl) (by kernel_rfl) (by kernel_rfl) (fun _ _ _ h => h) (Or.inl ⟨by rfl, ?hy1b2⟩) (by assumption) ?_
      case hy1b2 => (intro w hSw; (try dsimp only at hSw); simp only [List.getElem_toArray, List.getElem_cons_zero, List.getElem_cons_succ]; go_simp; try with_reducible rfl)
      try simp only [Act.put, List.getElem_toArray, List.getElem_cons_zero, List.getElem_cons_succ, List.setIfInBounds_toArray, List.set_cons_zero, List.set_cons_succ]
      refine wpAnyH_take (i := 2) (v := ?v2b3) rfl (by kernel_rfl) (by kernel_rfl) (by kernel_rfl) (fun _ _ _ h => h) (Or.inl ⟨by rfl, ?hy2b3⟩) (by assumption) ?_
      case hy2b3 => (intro w hSw; (try dsimp only at hSw); simp only [List.getElem_toArray, List.getElem_cons_zero, List.getElem_cons_succ]; go_simp; try with_reducible rfl)
      try simp only [Act.put, List.getElem_toArray, List.getElem_cons_zero, List.getElem_cons_succ, List.setIfInBounds_toArray, List.set_cons_zero, List.set_cons_succ]
      refine wpAnyH_take (i := 3) (v := _) rfl (by kernel_rfl) (by kernel_rfl) (by kernel_rfl) (fun _ _ _ h => h) (ldN_yield (by rfl) 56 _ rfl g1 (o1 + j * 2) (by rfl) (r1 j) (fun w hS => range_later X1.out l1 hS) _ Try.underlying56 rfl N1.out) (by assumption) ?_
      try simp only [Act.put, List.setIfInBounds_toArray, List.set_cons_zero, List.set_cons_succ]
      refine wpAnyH_take (i := 4) (v := ?v4b5) rfl (by kernel_rfl) (by kernel_rfl) (by kernel_rfl) (fun _ _ _ h => h) (Or.inl ⟨by rfl, ?hy4b5⟩) (by assumption) ?_
      case hy4b5 => (intro w hSw; (try dsimp only at hSw); simp only [List.getElem_toArray, List.getElem_cons_zero, List.getElem_cons_succ]; go_simp; try with_reducible rfl)
      try simp only [Act.put, List.getElem_toArray, List.getElem_cons_zero, List.getElem_cons_succ, List.setIfInBounds_toArray, List.set_cons_zero, List.set_cons_succ]
      refine wpAnyH_take (i := 5) (v := ?v5b6) rfl (by kernel_rfl) (by kernel_rfl) (by kernel_rfl) (fun _ _ _ h => h) (Or.inl ⟨by rfl, ?hy5b6⟩) (by assumption) ?_
      case hy5b6 => (intro w hSw; (try dsimp only at hSw); simp only [List.getElem_toArray, List.getElem_cons_zero, List.getElem_cons_succ]; go_simp; try with_reducible rfl)
      try simp only [Act.put, List.getElem_toArray, List.getElem_cons_zero, List.getElem_cons_succ, List.setIfInBounds_toArray, List.set_cons_zero, List.set_cons_succ]
      refine wpAnyH_take (i := 6) (v := ?v6b7) rfl (by kernel_rfl) (by kernel_rfl) (by kernel_rfl) (fun _ _ _ h => h) (Or.inl ⟨by rfl, ?hy6b7⟩) (by assumption) ?_
      case hy6b7 => (intro w hSw; (try dsimp only at hSw); simp only [List.getElem_toArray, List.getElem_cons_zero, List.getElem_cons_succ]; go_simp; try with_reducible rfl)
      try simp only [Act.put, List.getElem_toArray, List.getElem_cons_zero, List.getElem_cons_succ, List.setIfInBounds_toArray, List.set_cons_zero, List.set_cons_succ]
      refine wpAnyH_take (i := 7) (v := _) rfl (by kernel_rfl) (by kernel_rfl) (by kernel_rfl) (fun _ _ _ h => h) (ldN_yield (by rfl) 56 _ rfl g2 (o2 + j * 2) (by rfl) (r2 j) (fun w hS => range_later X2.out l2 hS) _ Try.underlying56 rfl N2.out) (by assumption) ?_
      try simp only [Act.put, List.setIfInBounds_toArray, List.set_cons_zero, List.set_cons_succ]
      refine wpAnyH_ready (rs := [8]) (by kernel_rfl) (by simp) ?_
      refine AllReadyH.cons (i := 8) rfl (fun K hK => ?_) AllReadyH.nil
      rw [if_pos (by rfl)]
      simp only [List.getElem_toArray, List.getElem_cons_zero, List.getElem_cons_succ]
      go_simp
      refine (EJ.out _ c).mono ?_
      rintro e y1 ⟨rfl, d1⟩
      have c1 : Below w.heap.size w y1 := bl_next c d1
      refine hK.out _ _ (c1) (fun hHeld => ?_)
      clear hK K
      try simp only [Act.put, List.getElem_toArray, List.getElem_cons_zero, List.getElem_cons_succ, List.setIfInBounds_toArray, List.set_cons_zero, List.set_cons_succ]
      clear d1
      refine wpAnyH_take (i := 9) (v := ?v9b9) rfl (by kernel_rfl) (by kernel_rfl) (by kernel_rfl) (fun _ _ _ h => h) (Or.inl ⟨by rfl, ?hy9b9⟩) (by assumption) ?_
      case hy9b9 => (intro w hSw; (try dsimp only at hSw); simp only [List.getElem_toArray, List.getElem_cons_zero, List.getElem_cons_succ]; go_simp; try with_reducible rfl)
      try simp only [Act.put, List.getElem_toArray, List.getElem_cons_zero, List.getElem_cons_succ, List.setIfInBounds_toArray, List.set_cons_zero, List.set_cons_succ]
      refine wpAnyH_done (by kernel_rfl) ?_ _
      have HB1 : Hid (Below w.heap.size w y1) := c1
      clear c c1 hHeld HB EJ X1 X2
      go_wp2_with fail
      go_roundw
      case rel => exact ⟨j + 1, by omega, by go_num, HB1⟩
      case measure => simp [intOf]; omega
    · obtain rfl : j = len := by omega
      go_wp2_with fail
      go_ret
      exact ⟨rfl, HB.out⟩
end Go.Proofs.Ytdodeillifoibaa


/- Lists of rings held against each other. Written by gen_lrg.py. -/
namespace Go.Proofs.Ytdodeillifoibaa
open Go.RowKit Pl
set_option linter.unusedVariables false
set_option linter.unusedSimpArgs false

theorem eqRns_any (s1 s2 : Sv) (es fs : List Rn) (B1 B2 : Nat) (w : World) (h1 : Hid (RnsO w B1 s1 es)) (h2 : Hid (RnsO w B2 s2 fs)) (hpl : Hid (es.map Rn.pl = fs.map Rn.pl)) (hl : es.length ≤ 1048576) (hs : Hid (∀ e ∈ es, e.S)) :
    Calls Try.prog 42 #[.slice s1.a s1.n s1.c, .slice s2.a s2.n s2.c] w fun x w' => x = .returned (.bool true) ∧ Below w.heap.size w w' := by
  have n1 : s1.n = es.length := by have := h1.out.1.slen; simpa using this
  have hfl : fs.length = es.length := by have := congrArg List.length hpl.out; simp at this; omega
  have n2 : s2.n = es.length := by have := h2.out.1.slen; simp at this; omega
  rw [n1, n2]
  refine eqrings_sp s1.a s2.a es.length s1.c s2.c (fun j => ((es.map Rn.row)[j]?).getD []) (fun j => ((fs.map Rn.row)[j]?).getD []) w (fun j hj => rowsAt h1.out.1 j (by simpa using hj)) (fun j hj => rowsAt h2.out.1 j (by simpa [hfl] using hj)) ?_ (by omega)
  intro j hj W b
  have hj2 : j < fs.length := by omega
  have e1 : ((es.map Rn.row)[j]?).getD [] = es[j].row := by simp [hj]
  have e2 : ((fs.map Rn.row)[j]?).getD [] = fs[j].row := by simp [hj2]
  have hp : es[j].pl = fs[j].pl := by
    have h := congrArg (fun l => l[j]?) hpl.out
    simpa [hj, hj2] using h
  try dsimp only
  rw [e1, e2]
  have o1 := (h1.out.2 _ (List.getElem_mem hj)).below b
  have o2 := (h2.out.2 _ (List.getElem_mem hj2)).below b
  obtain ⟨e, he⟩ : ∃ e, e = es[j] := ⟨_, rfl⟩
  obtain ⟨f, hf⟩ : ∃ f, f = fs[j] := ⟨_, rfl⟩
  have hS := hs.out _ (List.getElem_mem hj)
  rw [← he] at o1 hS hp
  rw [← hf] at o2 hp
  rw [← he, ← hf]
  obtain ⟨id, ms, sm⟩ := f
  simp only [Rn.pl, Prod.mk.injEq] at hp
  obtain ⟨rfl, rfl⟩ := hp
  exact eqRing_same e.id e.s.v sm.v e.ms B1 B2 W o1 o2 hS
/-- what a law's budget leaves room for. -/
theorem Rns.small {es : List Rn} {z L : Nat} (h : z + (es.length + Rns.tot es) ≤ L) (hL : L ≤ 1048576) : es.length ≤ 1048576 ∧ ∀ e ∈ es, e.S := ⟨by omega, fun e he => by have := tot_le (fun e : Rn => e.sz) _ e he; unfold Rn.S; unfold Rn.sz at this; unfold Rns.tot Rn.sz at h; omega⟩
end Go.Proofs.Ytdodeillifoibaa


/- Any world, held against another one. Written by gen_wo.py. -/
namespace Go.Proofs.Ytdodeillifoibaa
open Go.RowKit Pl
set_option linter.unusedVariables false
set_option linter.unusedSimpArgs false

/-- any world. -/
structure Wo where
  rs : Sv
  rl : List Rn
  ds : Sv
  dl : List Dm
  ls : Sv
  ll : List Lt
  ns : Sv
  nl : List Ev
structure WoO (w : World) (B : Nat) (x : Wo) : Prop where
  r : RnsO w B x.rs x.rl
  d : DmsO w B x.ds x.dl
  l : LtsO w B x.ls x.ll
  n : EvsO w B x.ns x.nl
theorem WoO.below {w w' : World} {B : Nat} {x : Wo} (h : WoO w B x) (b : Below w.heap.size w w') : WoO w' B x := ⟨h.r.below b, h.d.below b, h.l.below b, h.n.below b⟩
/-- what is read of a world. -/
structure WoR (w : World) (x : Wo) : Prop where
  r : RnsR w x.rs x.rl
  d : DmsR w x.ds x.dl
  l : LtsR w x.ls x.ll
  n : EvsR w x.ns x.nl
theorem WoO.rd {w : World} {B : Nat} {x : Wo} (h : WoO w B x) : WoR w x := ⟨h.r.r, h.d.r, h.l.r, h.n.r⟩
structure WoS (x : Wo) : Prop where
  rn : x.rl.length ≤ 1048576
  r : ∀ e ∈ x.rl, e.S
  dn : x.dl.length ≤ 1048576
  d : ∀ e ∈ x.dl, DmS e
  ln : x.ll.length ≤ 1048576
  l : ∀ e ∈ x.ll, e.S
  nn : x.nl.length ≤ 1048576
  n : ∀ e ∈ x.nl, e.S
structure Wo.Same (x y : Wo) : Prop where
  r : x.rl.map Rn.pl = y.rl.map Rn.pl
  dn : y.dl.length = x.dl.length
  d : ∀ j (a : j < x.dl.length) (b : j < y.dl.length), (x.dl[j]).Same (y.dl[j])
  l : x.ll.map Lt.pl = y.ll.map Lt.pl
  n : x.nl.map Ev.pl = y.nl.map Ev.pl
set_option maxRecDepth 100000 in
set_option maxHeartbeats 4000000 in
theorem eqWo_any (x y : Wo) (B1 B2 : Nat) (w : World) (h1 : Hid (WoO w B1 x)) (h2 : Hid (WoO w B2 y)) (he : Hid (x.Same y)) (hs : Hid (WoS x)) :
    Calls Try.prog 20 #[.agg #[.slice x.rs.a x.rs.n x.rs.c, .slice x.ds.a x.ds.n x.ds.c, .slice x.ls.a x.ls.n x.ls.c, .slice x.ns.a x.ns.n x.ns.c], .agg #[.slice y.rs.a y.rs.n y.rs.c, .slice y.ds.a y.ds.n y.ds.c, .slice y.ls.a y.ls.n y.ls.c, .slice y.ns.a y.ns.n y.ns.c]] w fun e w' => e = .returned (.bool true) ∧ Below w.heap.size w w' := by
  have hn1 : (w.alloc (.cells #[.slice x.rs.a x.rs.n x.rs.c, .slice x.ds.a x.ds.n x.ds.c, .slice x.ls.a x.ls.n x.ls.c, .slice x.ns.a x.ns.n x.ns.c] 44)).heap.size = w.heap.size + 1 := by simp
  have LA : Hid (Bx ((w.alloc (.cells #[.slice x.rs.a x.rs.n x.rs.c, .slice x.ds.a x.ds.n x.ds.c, .slice x.ls.a x.ls.n x.ls.c, .slice x.ns.a x.ns.n x.ns.c] 44)).alloc (.cells #[.slice y.rs.a y.rs.n y.rs.c, .slice y.ds.a y.ds.n y.ds.c, .slice y.ls.a y.ls.n y.ls.c, .slice y.ns.a y.ns.n y.ns.c] 44)) w.heap.size 44 [.slice x.rs.a x.rs.n x.rs.c, .slice x.ds.a x.ds.n x.ds.c, .slice x.ls.a x.ls.n x.ls.c, .slice x.ns.a x.ns.n x.ns.c]) := by
    have h := Bx.new w 44 [.slice x.rs.a x.rs.n x.rs.c, .slice x.ds.a x.ds.n x.ds.c, .slice x.ls.a x.ls.n x.ls.c, .slice x.ns.a x.ns.n x.ns.c]
    exact (h).later ((Below.refl _ _).alloc (Nat.le_refl _) _)
  have LB : Hid (Bx ((w.alloc (.cells #[.slice x.rs.a x.rs.n x.rs.c, .slice x.ds.a x.ds.n x.ds.c, .slice x.ls.a x.ls.n x.ls.c, .slice x.ns.a x.ns.n x.ns.c] 44)).alloc (.cells #[.slice y.rs.a y.rs.n y.rs.c, .slice y.ds.a y.ds.n y.ds.c, .slice y.ls.a y.ls.n y.ls.c, .slice y.ns.a y.ns.n y.ns.c] 44)) (w.heap.size + 1) 44 [.slice y.rs.a y.rs.n y.rs.c, .slice y.ds.a y.ds.n y.ds.c, .slice y.ls.a y.ls.n y.ls.c, .slice y.ns.a y.ns.n y.ns.c]) := by
    have h := Bx.new (w.alloc (.cells #[.slice x.rs.a x.rs.n x.rs.c, .slice x.ds.a x.ds.n x.ds.c, .slice x.ls.a x.ls.n x.ls.c, .slice x.ns.a x.ns.n x.ns.c] 44)) 44 [.slice y.rs.a y.rs.n y.rs.c, .slice y.ds.a y.ds.n y.ds.c, .slice y.ls.a y.ls.n y.ls.c, .slice y.ns.a y.ns.n y.ns.c]
    rw [hn1] at h
    exact h
  have BW : Hid (Below w.heap.size w ((w.alloc (.cells #[.slice x.rs.a x.rs.n x.rs.c, .slice x.ds.a x.ds.n x.ds.c, .slice x.ls.a x.ls.n x.ls.c, .slice x.ns.a x.ns.n x.ns.c] 44)).alloc (.cells #[.slice y.rs.a y.rs.n y.rs.c, .slice y.ds.a y.ds.n y.ds.c, .slice y.ls.a y.ls.n y.ls.c, .slice y.ns.a y.ns.n y.ns.c] 44))) := (((Below.refl _ _).alloc (by simp) _).alloc (by simp; try omega) _)
  clear hn1
  have PX : Hid (WoO ((w.alloc (.cells #[.slice x.rs.a x.rs.n x.rs.c, .slice x.ds.a x.ds.n x.ds.c, .slice x.ls.a x.ls.n x.ls.c, .slice x.ns.a x.ns.n x.ns.c] 44)).alloc (.cells #[.slice y.rs.a y.rs.n y.rs.c, .slice y.ds.a y.ds.n y.ds.c, .slice y.ls.a y.ls.n y.ls.c, .slice y.ns.a y.ns.n y.ns.c] 44)) B1 x) := h1.out.below BW.out
  have PY : Hid (WoO ((w.alloc (.cells #[.slice x.rs.a x.rs.n x.rs.c, .slice x.ds.a x.ds.n x.ds.c, .slice x.ls.a x.ls.n x.ls.c, .slice x.ns.a x.ns.n x.ns.c] 44)).alloc (.cells #[.slice y.rs.a y.rs.n y.rs.c, .slice y.ds.a y.ds.n y.ds.c, .slice y.ls.a y.ls.n y.ls.c, .slice y.ns.a y.ns.n y.ns.c] 44)) B2 y) := h2.out.below BW.out
  clear h1 h2
  go_enter Try.func20, Try.ntmps20
  have ca := LA.out.cell 0
  have cb := LB.out.cell 0
  simp only [List.getElem?_cons_succ, List.getElem?_cons_zero] at ca cb
  go_wp2_with fail
  clear ca cb
  generalize ((w.alloc (.cells #[.slice x.rs.a x.rs.n x.rs.c, .slice x.ds.a x.ds.n x.ds.c, .slice x.ls.a x.ls.n x.ls.c, .slice x.ns.a x.ns.n x.ns.c] 44)).alloc (.cells #[.slice y.rs.a y.rs.n y.rs.c, .slice y.ds.a y.ds.n y.ds.c, .slice y.ls.a y.ls.n y.ls.c, .slice y.ns.a y.ns.n y.ns.c] 44)) = W at *
  refine (eqRns_any x.rs y.rs x.rl y.rl B1 B2 _ (show Hid (RnsO W B1 x.rs x.rl) from PX.out.r) (show Hid (RnsO W B2 y.rs y.rl) from PY.out.r) (show Hid _ from he.out.r) hs.out.rn (show Hid (∀ e ∈ x.rl, e.S) from hs.out.r)).mono ?_
  rintro e w1 ⟨rfl, b⟩
  have z_w1 : W.heap.size ≤ w1.heap.size := b.size
  have LA : Hid (Bx w1 w.heap.size 44 [.slice x.rs.a x.rs.n x.rs.c, .slice x.ds.a x.ds.n x.ds.c, .slice x.ls.a x.ls.n x.ls.c, .slice x.ns.a x.ns.n x.ns.c]) := LA.out.later b
  have LB : Hid (Bx w1 (w.heap.size + 1) 44 [.slice y.rs.a y.rs.n y.rs.c, .slice y.ds.a y.ds.n y.ds.c, .slice y.ls.a y.ls.n y.ls.c, .slice y.ns.a y.ns.n y.ns.c]) := LB.out.later b
  have BW : Hid (Below w.heap.size w w1) := bl_next BW.out b
  have PX : Hid (WoO w1 B1 x) := PX.out.below b
  have PY : Hid (WoO w1 B2 y) := PY.out.below b
  clear b
  have ca := LA.out.cell 1
  have cb := LB.out.cell 1
  simp only [List.getElem?_cons_succ, List.getElem?_cons_zero] at ca cb
  go_wp2_with fail
  clear ca cb
  refine (eqDms_any x.ds y.ds x.dl y.dl B1 B2 _ (show Hid (DmsO w1 B1 x.ds x.dl) from PX.out.d) (show Hid (DmsO w1 B2 y.ds y.dl) from PY.out.d) he.out.dn (show Hid _ from he.out.d) hs.out.dn (show Hid (∀ e ∈ x.dl, DmS e) from hs.out.d)).mono ?_
  rintro e w2 ⟨rfl, b⟩
  have z_w2 : w1.heap.size ≤ w2.heap.size := b.size
  have LA : Hid (Bx w2 w.heap.size 44 [.slice x.rs.a x.rs.n x.rs.c, .slice x.ds.a x.ds.n x.ds.c, .slice x.ls.a x.ls.n x.ls.c, .slice x.ns.a x.ns.n x.ns.c]) := LA.out.later b
  have LB : Hid (Bx w2 (w.heap.size + 1) 44 [.slice y.rs.a y.rs.n y.rs.c, .slice y.ds.a y.ds.n y.ds.c, .slice y.ls.a y.ls.n y.ls.c, .slice y.ns.a y.ns.n y.ns.c]) := LB.out.later b
  have BW : Hid (Below w.heap.size w w2) := bl_next BW.out b
  have PX : Hid (WoO w2 B1 x) := PX.out.below b
  have PY : Hid (WoO w2 B2 y) := PY.out.below b
  clear b
  have ca := LA.out.cell 2
  have cb := LB.out.cell 2
  simp only [List.getElem?_cons_succ, List.getElem?_cons_zero] at ca cb
  go_wp2_with fail
  clear ca cb
  refine (eqLts_any x.ls y.ls x.ll y.ll B1 B2 _ (show Hid (LtsO w2 B1 x.ls x.ll) from PX.out.l) (show Hid (LtsO w2 B2 y.ls y.ll) from PY.out.l) (show Hid _ from he.out.l) hs.out.ln (show Hid (∀ e ∈ x.ll, e.S) from hs.out.l)).mono ?_
  rintro e w3 ⟨rfl, b⟩
  have z_w3 : w2.heap.size ≤ w3.heap.size := b.size
  have LA : Hid (Bx w3 w.heap.size 44 [.slice x.rs.a x.rs.n x.rs.c, .slice x.ds.a x.ds.n x.ds.c, .slice x.ls.a x.ls.n x.ls.c, .slice x.ns.a x.ns.n x.ns.c]) := LA.out.later b
  have LB : Hid (Bx w3 (w.heap.size + 1) 44 [.slice y.rs.a y.rs.n y.rs.c, .slice y.ds.a y.ds.n y.ds.c, .slice y.ls.a y.ls.n y.ls.c, .slice y.ns.a y.ns.n y.ns.c]) := LB.out.later b
  have BW : Hid (Below w.heap.size w w3) := bl_next BW.out b
  have PX : Hid (WoO w3 B1 x) := PX.out.below b
  have PY : Hid (WoO w3 B2 y) := PY.out.below b
  clear b
  have ca := LA.out.cell 3
  have cb := LB.out.cell 3
  simp only [List.getElem?_cons_succ, List.getElem?_cons_zero] at ca cb
  go_wp2_with fail
  clear ca cb
  refine (eqEvs_any x.ns y.ns x.nl y.nl B1 B2 _ (show Hid (EvsO w3 B1 x.ns x.nl) from PX.out.n) (show Hid (EvsO w3 B2 y.ns y.nl) from PY.out.n) (show Hid _ from he.out.n) hs.out.nn (show Hid (∀ e ∈ x.nl, e.S) from hs.out.n)).mono ?_
  rintro e w4 ⟨rfl, b⟩
  have z_w4 : w3.heap.size ≤ w4.heap.size := b.size
  have LA : Hid (Bx w4 w.heap.size 44 [.slice x.rs.a x.rs.n x.rs.c, .slice x.ds.a x.ds.n x.ds.c, .slice x.ls.a x.ls.n x.ls.c, .slice x.ns.a x.ns.n x.ns.c]) := LA.out.later b
  have LB : Hid (Bx w4 (w.heap.size + 1) 44 [.slice y.rs.a y.rs.n y.rs.c, .slice y.ds.a y.ds.n y.ds.c, .slice y.ls.a y.ls.n y.ls.c, .slice y.ns.a y.ns.n y.ns.c]) := LB.out.later b
  have BW : Hid (Below w.heap.size w w4) := bl_next BW.out b
  have PX : Hid (WoO w4 B1 x) := PX.out.below b
  have PY : Hid (WoO w4 B2 y) := PY.out.below b
  clear b
  go_wp2_with fail
  go_ret
  exact ⟨rfl, BW.out⟩
end Go.Proofs.Ytdodeillifoibaa


/- Any world measured, copied. Written by gen_sw.py. -/
namespace Go.Proofs.Ytdodeillifoibaa
open Go.RowKit Pl
set_option linter.unusedVariables false
set_option linter.unusedSimpArgs false

theorem Try.sizeWo6 : (Try.prog.info? 44).map (·.size) = some 4 := by kernel_rfl
theorem Try.sizeRs6 : (Try.prog.info? 40).map (·.size) = some 1 := by kernel_rfl
theorem Try.sizeDs6 : (Try.prog.info? 41).map (·.size) = some 1 := by kernel_rfl
theorem WoR.stays {w w' : World} {x : Wo} (h : WoR w x) (b : Below w.heap.size w w') : WoR w' x := ⟨h.r.stays b, h.d.stays b, h.l.stays b, h.n.stays b⟩
structure WoL (x : Wo) : Prop where
  rn : x.rl.length ≤ 9223372036854775807
  r : ∀ e ∈ x.rl, e.L
  dn : x.dl.length ≤ 9223372036854775807
  d : ∀ e ∈ x.dl, e.L
  ln : x.ll.length ≤ 9223372036854775807
  l : ∀ e ∈ x.ll, e.L
  nn : x.nl.length ≤ 9223372036854775807
  n : ∀ e ∈ x.nl, e.L
theorem dms_same {a b : List Dm} (h : b.map Dm.pl = a.map Dm.pl) : b.length = a.length ∧ ∀ j (p : j < a.length) (q : j < b.length), (a[j]).Same (b[j]) := by
  refine ⟨by have := congrArg List.length h; simpa using this, fun j p q => Dm.same_of ?_⟩
  have h := congrArg (fun l => l[j]?) h
  simpa [p, q] using h.symm
set_option maxRecDepth 100000 in
set_option maxHeartbeats 4000000 in
theorem szWorld_any (x : Wo) (w : World) (h : Hid (WoR w x)) (hl : Hid (WoL x)) :
    Calls Try.prog 16 #[.agg #[.slice x.rs.a x.rs.n x.rs.c, .slice x.ds.a x.ds.n x.ds.c, .slice x.ls.a x.ls.n x.ls.c, .slice x.ns.a x.ns.n x.ns.c], .int .i64 1048576] w fun e w' => (e = .returned (.int .i64 (-1)) ∨ ∃ z : Nat, e = .returned (.int .i64 z) ∧ Hid (WoS x)) ∧ Below w.heap.size w w' := by
  have LA : Hid (Bx (w.alloc (.cells #[.slice x.rs.a x.rs.n x.rs.c, .slice x.ds.a x.ds.n x.ds.c, .slice x.ls.a x.ls.n x.ls.c, .slice x.ns.a x.ns.n x.ns.c] 37)) w.heap.size 37 [.slice x.rs.a x.rs.n x.rs.c, .slice x.ds.a x.ds.n x.ds.c, .slice x.ls.a x.ls.n x.ls.c, .slice x.ns.a x.ns.n x.ns.c]) := by
    have h := Bx.new w 37 [.slice x.rs.a x.rs.n x.rs.c, .slice x.ds.a x.ds.n x.ds.c, .slice x.ls.a x.ls.n x.ls.c, .slice x.ns.a x.ns.n x.ns.c]
    exact h
  have BW : Hid (Below w.heap.size w (w.alloc (.cells #[.slice x.rs.a x.rs.n x.rs.c, .slice x.ds.a x.ds.n x.ds.c, .slice x.ls.a x.ls.n x.ls.c, .slice x.ns.a x.ns.n x.ns.c] 37))) := ((Below.refl _ _).alloc (by simp) _)
  have HR : Hid (WoR (w.alloc (.cells #[.slice x.rs.a x.rs.n x.rs.c, .slice x.ds.a x.ds.n x.ds.c, .slice x.ls.a x.ls.n x.ls.c, .slice x.ns.a x.ns.n x.ns.c] 37)) x) := h.out.stays BW.out
  clear h
  have c0 := LA.out.cell 0
  simp only [List.getElem?_cons_zero] at c0
  go_enter Try.func16, Try.ntmps16
  go_wp2_with fail
  clear c0
  generalize (w.alloc (.cells #[.slice x.rs.a x.rs.n x.rs.c, .slice x.ds.a x.ds.n x.ds.c, .slice x.ls.a x.ls.n x.ls.c, .slice x.ns.a x.ns.n x.ns.c] 37)) = W at *
  refine (szRings_any x.rs x.rl 1048576 _ (show Hid (RnsR W x.rs x.rl) from HR.out.r) (by omega) hl.out.rn (show Hid (∀ e ∈ x.rl, e.L) from hl.out.r)).mono ?_
  rintro e w1 ⟨rfl | ⟨z1, rfl, hz1⟩, b⟩
  · go_wp2_with fail
    go_ret
    exact ⟨.inl rfl, bl_next BW.out b⟩
  have hzl1 : z1 ≤ 1048576 := by have := hz1.out; omega
  have hd1 : decide ((z1 : Int) < 0) = false := by simp
  have LA : Hid (Bx w1 w.heap.size 37 [.slice x.rs.a x.rs.n x.rs.c, .slice x.ds.a x.ds.n x.ds.c, .slice x.ls.a x.ls.n x.ls.c, .slice x.ns.a x.ns.n x.ns.c]) := LA.out.later b
  have BW : Hid (Below w.heap.size w w1) := bl_next BW.out b
  have HR : Hid (WoR w1 x) := HR.out.stays b
  clear b
  have c1 := LA.out.cell 1
  simp only [List.getElem?_cons_succ, List.getElem?_cons_zero] at c1
  go_wp2_with fail
  clear c1
  refine (szDaemons_any x.ds x.dl z1 _ (show Hid (DmsR w1 x.ds x.dl) from HR.out.d) hzl1 hl.out.dn (show Hid (∀ e ∈ x.dl, e.L) from hl.out.d)).mono ?_
  rintro e w2 ⟨rfl | ⟨z2, rfl, hzl2, hz2⟩, b⟩
  · go_wp2_with fail
    go_ret
    exact ⟨.inl rfl, bl_next BW.out b⟩
  have hd2 : decide ((z2 : Int) < 0) = false := by simp
  have LA : Hid (Bx w2 w.heap.size 37 [.slice x.rs.a x.rs.n x.rs.c, .slice x.ds.a x.ds.n x.ds.c, .slice x.ls.a x.ls.n x.ls.c, .slice x.ns.a x.ns.n x.ns.c]) := LA.out.later b
  have BW : Hid (Below w.heap.size w w2) := bl_next BW.out b
  have HR : Hid (WoR w2 x) := HR.out.stays b
  clear b
  have c2 := LA.out.cell 2
  simp only [List.getElem?_cons_succ, List.getElem?_cons_zero] at c2
  go_wp2_with fail
  clear c2
  refine (szLetters_any x.ls x.ll z2 _ (show Hid (LtsR w2 x.ls x.ll) from HR.out.l) hzl2 hl.out.ln (show Hid (∀ e ∈ x.ll, e.L) from hl.out.l)).mono ?_
  rintro e w3 ⟨rfl | ⟨z3, rfl, hz3⟩, b⟩
  · go_wp2_with fail
    go_ret
    exact ⟨.inl rfl, bl_next BW.out b⟩
  have hzl3 : z3 ≤ 1048576 := by have := hz3.out; omega
  have hd3 : decide ((z3 : Int) < 0) = false := by simp
  have LA : Hid (Bx w3 w.heap.size 37 [.slice x.rs.a x.rs.n x.rs.c, .slice x.ds.a x.ds.n x.ds.c, .slice x.ls.a x.ls.n x.ls.c, .slice x.ns.a x.ns.n x.ns.c]) := LA.out.later b
  have BW : Hid (Below w.heap.size w w3) := bl_next BW.out b
  have HR : Hid (WoR w3 x) := HR.out.stays b
  clear b
  have c3 := LA.out.cell 3
  simp only [List.getElem?_cons_succ, List.getElem?_cons_zero] at c3
  go_wp2_with fail
  clear c3
  refine (szEvents_any x.ns x.nl z3 _ (show Hid (EvsR w3 x.ns x.nl) from HR.out.n) hzl3 hl.out.nn (show Hid (∀ e ∈ x.nl, e.L) from hl.out.n)).mono ?_
  rintro e w4 ⟨rfl | ⟨z4, rfl, hz4⟩, b⟩
  · go_wp2_with fail
    go_ret
    exact ⟨.inl rfl, bl_next BW.out b⟩
  have hd4 : decide ((z4 : Int) < 0) = false := by simp
  have LA : Hid (Bx w4 w.heap.size 37 [.slice x.rs.a x.rs.n x.rs.c, .slice x.ds.a x.ds.n x.ds.c, .slice x.ls.a x.ls.n x.ls.c, .slice x.ns.a x.ns.n x.ns.c]) := LA.out.later b
  have BW : Hid (Below w.heap.size w w4) := bl_next BW.out b
  have HR : Hid (WoR w4 x) := HR.out.stays b
  clear b
  go_wp2_with fail
  go_ret
  refine ⟨.inr ⟨z4, rfl, (⟨?_, ?_, ?_, ?_, ?_, ?_, ?_, ?_⟩ : WoS x)⟩, BW.out⟩
  · have := hz1.out; omega
  · intro e he; have h1 := tot_le (fun e : Rn => e.sz) _ e he; have h2 := hz1.out; unfold Rns.tot at h2; unfold Rn.S; unfold Rn.sz at h1 h2; omega
  · have := hz2.out.1; omega
  · exact hz2.out.2
  · have := hz3.out; omega
  · intro e he; have h1 := tot_le (fun e : Lt => e.sz) _ e he; have h2 := hz3.out; unfold Lts.tot at h2; unfold Lt.S; unfold Lt.sz at h1 h2; omega
  · have := hz4.out; omega
  · intro e he; have h1 := tot_le (fun e : Ev => e.sz) _ e he; have h2 := hz4.out; unfold Evs.tot at h2; unfold Ev.S; unfold Ev.sz at h1 h2; omega
set_option maxRecDepth 100000 in
set_option maxHeartbeats 8000000 in
theorem toWorld_any (x : Wo) (w : World) (h : Hid (WoR w x)) (hs : Hid (WoS x)) :
    Calls Try.prog 18 #[.agg #[.slice x.rs.a x.rs.n x.rs.c, .slice x.ds.a x.ds.n x.ds.c, .slice x.ls.a x.ls.n x.ls.c, .slice x.ns.a x.ns.n x.ns.c]] w fun e w' => ∃ y : Wo, e = .returned (.agg #[.slice y.rs.a y.rs.n y.rs.c, .slice y.ds.a y.ds.n y.ds.c, .slice y.ls.a y.ls.n y.ls.c, .slice y.ns.a y.ns.n y.ns.c]) ∧ x.Same y ∧ WoO w' w.heap.size y ∧ Below w.heap.size w w' := by
  have hn1 : (w.alloc (.cells #[.slice x.rs.a x.rs.n x.rs.c, .slice x.ds.a x.ds.n x.ds.c, .slice x.ls.a x.ls.n x.ls.c, .slice x.ns.a x.ns.n x.ns.c] 37)).heap.size = w.heap.size + 1 := by simp
  have hn2 : ((w.alloc (.cells #[.slice x.rs.a x.rs.n x.rs.c, .slice x.ds.a x.ds.n x.ds.c, .slice x.ls.a x.ls.n x.ls.c, .slice x.ns.a x.ns.n x.ns.c] 37)).alloc (.cells #[.slice none 0 0, .slice none 0 0, .slice none 0 0, .slice none 0 0] 44)).heap.size = w.heap.size + 2 := by simp
  have LA : Hid (Bx (((w.alloc (.cells #[.slice x.rs.a x.rs.n x.rs.c, .slice x.ds.a x.ds.n x.ds.c, .slice x.ls.a x.ls.n x.ls.c, .slice x.ns.a x.ns.n x.ns.c] 37)).alloc (.cells #[.slice none 0 0, .slice none 0 0, .slice none 0 0, .slice none 0 0] 44)).alloc (.cells #[.slice none 0 0, .slice none 0 0, .slice none 0 0, .slice none 0 0] 44)) w.heap.size 37 [.slice x.rs.a x.rs.n x.rs.c, .slice x.ds.a x.ds.n x.ds.c, .slice x.ls.a x.ls.n x.ls.c, .slice x.ns.a x.ns.n x.ns.c]) := by
    have h := Bx.new w 37 [.slice x.rs.a x.rs.n x.rs.c, .slice x.ds.a x.ds.n x.ds.c, .slice x.ls.a x.ls.n x.ls.c, .slice x.ns.a x.ns.n x.ns.c]
    exact ((h).later ((Below.refl _ _).alloc (Nat.le_refl _) _)).later ((Below.refl _ _).alloc (Nat.le_refl _) _)
  have EB : Hid (Bx (((w.alloc (.cells #[.slice x.rs.a x.rs.n x.rs.c, .slice x.ds.a x.ds.n x.ds.c, .slice x.ls.a x.ls.n x.ls.c, .slice x.ns.a x.ns.n x.ns.c] 37)).alloc (.cells #[.slice none 0 0, .slice none 0 0, .slice none 0 0, .slice none 0 0] 44)).alloc (.cells #[.slice none 0 0, .slice none 0 0, .slice none 0 0, .slice none 0 0] 44)) (w.heap.size + 1) 44 [.slice none 0 0, .slice none 0 0, .slice none 0 0, .slice none 0 0]) := by
    have h := Bx.new (w.alloc (.cells #[.slice x.rs.a x.rs.n x.rs.c, .slice x.ds.a x.ds.n x.ds.c, .slice x.ls.a x.ls.n x.ls.c, .slice x.ns.a x.ns.n x.ns.c] 37)) 44 [.slice none 0 0, .slice none 0 0, .slice none 0 0, .slice none 0 0]
    rw [hn1] at h
    exact (h).later ((Below.refl _ _).alloc (Nat.le_refl _) _)
  have VB : Hid (Bx (((w.alloc (.cells #[.slice x.rs.a x.rs.n x.rs.c, .slice x.ds.a x.ds.n x.ds.c, .slice x.ls.a x.ls.n x.ls.c, .slice x.ns.a x.ns.n x.ns.c] 37)).alloc (.cells #[.slice none 0 0, .slice none 0 0, .slice none 0 0, .slice none 0 0] 44)).alloc (.cells #[.slice none 0 0, .slice none 0 0, .slice none 0 0, .slice none 0 0] 44)) (w.heap.size + 2) 44 [.slice none 0 0, .slice none 0 0, .slice none 0 0, .slice none 0 0]) := by
    have h := Bx.new ((w.alloc (.cells #[.slice x.rs.a x.rs.n x.rs.c, .slice x.ds.a x.ds.n x.ds.c, .slice x.ls.a x.ls.n x.ls.c, .slice x.ns.a x.ns.n x.ns.c] 37)).alloc (.cells #[.slice none 0 0, .slice none 0 0, .slice none 0 0, .slice none 0 0] 44)) 44 [.slice none 0 0, .slice none 0 0, .slice none 0 0, .slice none 0 0]
    rw [hn2] at h
    exact h
  have BW : Hid (Below w.heap.size w (((w.alloc (.cells #[.slice x.rs.a x.rs.n x.rs.c, .slice x.ds.a x.ds.n x.ds.c, .slice x.ls.a x.ls.n x.ls.c, .slice x.ns.a x.ns.n x.ns.c] 37)).alloc (.cells #[.slice none 0 0, .slice none 0 0, .slice none 0 0, .slice none 0 0] 44)).alloc (.cells #[.slice none 0 0, .slice none 0 0, .slice none 0 0, .slice none 0 0] 44))) := ((((Below.refl _ _).alloc (by simp) _).alloc (by simp; try omega) _).alloc (by simp; try omega) _)
  clear hn1 hn2
  have h0 := h
  clear h
  have HR : Hid (RnsR (((w.alloc (.cells #[.slice x.rs.a x.rs.n x.rs.c, .slice x.ds.a x.ds.n x.ds.c, .slice x.ls.a x.ls.n x.ls.c, .slice x.ns.a x.ns.n x.ns.c] 37)).alloc (.cells #[.slice none 0 0, .slice none 0 0, .slice none 0 0, .slice none 0 0] 44)).alloc (.cells #[.slice none 0 0, .slice none 0 0, .slice none 0 0, .slice none 0 0] 44)) x.rs x.rl) := h0.out.r.stays BW.out
  have c0 := LA.out.cell 0
  simp only [List.getElem?_cons_zero] at c0
  go_enter Try.func18, Try.ntmps18
  go_wp2_with fail
  clear c0
  generalize (((w.alloc (.cells #[.slice x.rs.a x.rs.n x.rs.c, .slice x.ds.a x.ds.n x.ds.c, .slice x.ls.a x.ls.n x.ls.c, .slice x.ns.a x.ns.n x.ns.c] 37)).alloc (.cells #[.slice none 0 0, .slice none 0 0, .slice none 0 0, .slice none 0 0] 44)).alloc (.cells #[.slice none 0 0, .slice none 0 0, .slice none 0 0, .slice none 0 0] 44)) = W at *
  have zW : w.heap.size + 2 < W.heap.size := VB.out.lt
  refine (toRings_any x.rs x.rl _ HR hs.out.rn (show Hid (∀ e ∈ x.rl, e.S) from hs.out.r)).mono ?_
  rintro e v0 ⟨s0, l0, rfl, p, o, _, _, b⟩
  have O0 : Hid (RnsO v0 (w.heap.size + 3) s0 l0) := o.down (by omega)
  have P0 : Hid (l0.map Rn.pl = x.rl.map Rn.pl) := p
  clear o p HR
  have z_v0 : W.heap.size ≤ v0.heap.size := b.size
  have LA : Hid (Bx v0 w.heap.size 37 [.slice x.rs.a x.rs.n x.rs.c, .slice x.ds.a x.ds.n x.ds.c, .slice x.ls.a x.ls.n x.ls.c, .slice x.ns.a x.ns.n x.ns.c]) := LA.out.later b
  have EB : Hid (Bx v0 (w.heap.size + 1) 44 [.slice none 0 0, .slice none 0 0, .slice none 0 0, .slice none 0 0]) := EB.out.later b
  have VB : Hid (Bx v0 (w.heap.size + 2) 44 [.slice none 0 0, .slice none 0 0, .slice none 0 0, .slice none 0 0]) := VB.out.later b
  have BW : Hid (Below w.heap.size w v0) := bl_next BW.out b
  clear b
  go_wp2_with (first | (with_reducible refine wpList_haltS 40 _ _ rfl ?_))
  refine Stp.go ?_
  refine wpList_st1 rfl 40 _ _ rfl (w.heap.size + 2) 0 rfl 44 _ VB.out (.slice s0.a s0.n s0.c) rfl (by simp) rfl Try.sizeRs6 [.slice s0.a s0.n s0.c, .slice none 0 0, .slice none 0 0, .slice none 0 0] rfl ?_
  intro u0 OB TB
  have z_u0 : v0.heap.size ≤ u0.heap.size := Nat.le_of_eq TB.size.symm
  have LA : Hid (Bx u0 w.heap.size 37 [.slice x.rs.a x.rs.n x.rs.c, .slice x.ds.a x.ds.n x.ds.c, .slice x.ls.a x.ls.n x.ls.c, .slice x.ns.a x.ns.n x.ns.c]) := LA.out.turn TB (by omega)
  have EB : Hid (Bx u0 (w.heap.size + 1) 44 [.slice none 0 0, .slice none 0 0, .slice none 0 0, .slice none 0 0]) := EB.out.turn TB (by omega)
  have BW : Hid (Below w.heap.size w u0) := BW.out.trans (TB.below (by omega))
  have O0 : Hid (RnsO u0 (w.heap.size + 3) s0 l0) := O0.out.keep fun b hb _ => TB.block b (by omega)
  have VB : Hid (Bx u0 (w.heap.size + 2) 44 [.slice s0.a s0.n s0.c, .slice none 0 0, .slice none 0 0, .slice none 0 0]) := OB
  clear OB TB
  have HR : Hid (DmsR u0 x.ds x.dl) := h0.out.d.stays BW.out
  have c1 := LA.out.cell 1
  simp only [List.getElem?_cons_succ, List.getElem?_cons_zero] at c1
  go_wp2_with fail
  clear c1
  refine (toDaemons_any x.ds x.dl _ HR hs.out.dn (show Hid (∀ e ∈ x.dl, e.S) from hs.out.d)).mono ?_
  rintro e v1 ⟨s1, l1, rfl, p, o, _, _, b⟩
  have O1 : Hid (DmsO v1 (w.heap.size + 3) s1 l1) := o.down (by omega)
  have P1 : Hid (l1.map Dm.pl = x.dl.map Dm.pl) := p
  clear o p HR
  have z_v1 : u0.heap.size ≤ v1.heap.size := b.size
  have LA : Hid (Bx v1 w.heap.size 37 [.slice x.rs.a x.rs.n x.rs.c, .slice x.ds.a x.ds.n x.ds.c, .slice x.ls.a x.ls.n x.ls.c, .slice x.ns.a x.ns.n x.ns.c]) := LA.out.later b
  have EB : Hid (Bx v1 (w.heap.size + 1) 44 [.slice none 0 0, .slice none 0 0, .slice none 0 0, .slice none 0 0]) := EB.out.later b
  have VB : Hid (Bx v1 (w.heap.size + 2) 44 [.slice s0.a s0.n s0.c, .slice none 0 0, .slice none 0 0, .slice none 0 0]) := VB.out.later b
  have BW : Hid (Below w.heap.size w v1) := bl_next BW.out b
  have O0 : Hid (RnsO v1 (w.heap.size + 3) s0 l0) := O0.out.below b
  clear b
  go_wp2_with (first | (with_reducible refine wpList_haltS 41 _ _ rfl ?_))
  refine Stp.go ?_
  refine wpList_st1 rfl 41 _ _ rfl (w.heap.size + 2) 1 rfl 44 _ VB.out (.slice s1.a s1.n s1.c) rfl (by simp) rfl Try.sizeDs6 [.slice s0.a s0.n s0.c, .slice s1.a s1.n s1.c, .slice none 0 0, .slice none 0 0] rfl ?_
  intro u1 OB TB
  have z_u1 : v1.heap.size ≤ u1.heap.size := Nat.le_of_eq TB.size.symm
  have LA : Hid (Bx u1 w.heap.size 37 [.slice x.rs.a x.rs.n x.rs.c, .slice x.ds.a x.ds.n x.ds.c, .slice x.ls.a x.ls.n x.ls.c, .slice x.ns.a x.ns.n x.ns.c]) := LA.out.turn TB (by omega)
  have EB : Hid (Bx u1 (w.heap.size + 1) 44 [.slice none 0 0, .slice none 0 0, .slice none 0 0, .slice none 0 0]) := EB.out.turn TB (by omega)
  have BW : Hid (Below w.heap.size w u1) := BW.out.trans (TB.below (by omega))
  have O0 : Hid (RnsO u1 (w.heap.size + 3) s0 l0) := O0.out.keep fun b hb _ => TB.block b (by omega)
  have O1 : Hid (DmsO u1 (w.heap.size + 3) s1 l1) := O1.out.keep fun b hb _ => TB.block b (by omega)
  have VB : Hid (Bx u1 (w.heap.size + 2) 44 [.slice s0.a s0.n s0.c, .slice s1.a s1.n s1.c, .slice none 0 0, .slice none 0 0]) := OB
  clear OB TB
  have HR : Hid (LtsR u1 x.ls x.ll) := h0.out.l.stays BW.out
  have c2 := LA.out.cell 2
  simp only [List.getElem?_cons_succ, List.getElem?_cons_zero] at c2
  go_wp2_with fail
  clear c2
  refine (toLetters_any x.ls x.ll _ HR hs.out.ln (show Hid (∀ e ∈ x.ll, e.S) from hs.out.l)).mono ?_
  rintro e v2 ⟨s2, l2, rfl, p, o, _, _, b⟩
  have O2 : Hid (LtsO v2 (w.heap.size + 3) s2 l2) := o.down (by omega)
  have P2 : Hid (l2.map Lt.pl = x.ll.map Lt.pl) := p
  clear o p HR
  have z_v2 : u1.heap.size ≤ v2.heap.size := b.size
  have LA : Hid (Bx v2 w.heap.size 37 [.slice x.rs.a x.rs.n x.rs.c, .slice x.ds.a x.ds.n x.ds.c, .slice x.ls.a x.ls.n x.ls.c, .slice x.ns.a x.ns.n x.ns.c]) := LA.out.later b
  have EB : Hid (Bx v2 (w.heap.size + 1) 44 [.slice none 0 0, .slice none 0 0, .slice none 0 0, .slice none 0 0]) := EB.out.later b
  have VB : Hid (Bx v2 (w.heap.size + 2) 44 [.slice s0.a s0.n s0.c, .slice s1.a s1.n s1.c, .slice none 0 0, .slice none 0 0]) := VB.out.later b
  have BW : Hid (Below w.heap.size w v2) := bl_next BW.out b
  have O0 : Hid (RnsO v2 (w.heap.size + 3) s0 l0) := O0.out.below b
  have O1 : Hid (DmsO v2 (w.heap.size + 3) s1 l1) := O1.out.below b
  clear b
  go_wp2_with (first | (with_reducible refine wpList_haltS 42 _ _ rfl ?_))
  refine Stp.go ?_
  refine wpList_st1 rfl 42 _ _ rfl (w.heap.size + 2) 2 rfl 44 _ VB.out (.slice s2.a s2.n s2.c) rfl (by simp) rfl Try.sizeLts [.slice s0.a s0.n s0.c, .slice s1.a s1.n s1.c, .slice s2.a s2.n s2.c, .slice none 0 0] rfl ?_
  intro u2 OB TB
  have z_u2 : v2.heap.size ≤ u2.heap.size := Nat.le_of_eq TB.size.symm
  have LA : Hid (Bx u2 w.heap.size 37 [.slice x.rs.a x.rs.n x.rs.c, .slice x.ds.a x.ds.n x.ds.c, .slice x.ls.a x.ls.n x.ls.c, .slice x.ns.a x.ns.n x.ns.c]) := LA.out.turn TB (by omega)
  have EB : Hid (Bx u2 (w.heap.size + 1) 44 [.slice none 0 0, .slice none 0 0, .slice none 0 0, .slice none 0 0]) := EB.out.turn TB (by omega)
  have BW : Hid (Below w.heap.size w u2) := BW.out.trans (TB.below (by omega))
  have O0 : Hid (RnsO u2 (w.heap.size + 3) s0 l0) := O0.out.keep fun b hb _ => TB.block b (by omega)
  have O1 : Hid (DmsO u2 (w.heap.size + 3) s1 l1) := O1.out.keep fun b hb _ => TB.block b (by omega)
  have O2 : Hid (LtsO u2 (w.heap.size + 3) s2 l2) := O2.out.keep fun b hb _ => TB.block b (by omega)
  have VB : Hid (Bx u2 (w.heap.size + 2) 44 [.slice s0.a s0.n s0.c, .slice s1.a s1.n s1.c, .slice s2.a s2.n s2.c, .slice none 0 0]) := OB
  clear OB TB
  have HR : Hid (EvsR u2 x.ns x.nl) := h0.out.n.stays BW.out
  have c3 := LA.out.cell 3
  simp only [List.getElem?_cons_succ, List.getElem?_cons_zero] at c3
  go_wp2_with fail
  clear c3
  refine (toEvents_any x.ns x.nl _ HR hs.out.nn (show Hid (∀ e ∈ x.nl, e.S) from hs.out.n)).mono ?_
  rintro e v3 ⟨s3, l3, rfl, p, o, _, _, b⟩
  have O3 : Hid (EvsO v3 (w.heap.size + 3) s3 l3) := o.down (by omega)
  have P3 : Hid (l3.map Ev.pl = x.nl.map Ev.pl) := p
  clear o p HR
  have z_v3 : u2.heap.size ≤ v3.heap.size := b.size
  have LA : Hid (Bx v3 w.heap.size 37 [.slice x.rs.a x.rs.n x.rs.c, .slice x.ds.a x.ds.n x.ds.c, .slice x.ls.a x.ls.n x.ls.c, .slice x.ns.a x.ns.n x.ns.c]) := LA.out.later b
  have EB : Hid (Bx v3 (w.heap.size + 1) 44 [.slice none 0 0, .slice none 0 0, .slice none 0 0, .slice none 0 0]) := EB.out.later b
  have VB : Hid (Bx v3 (w.heap.size + 2) 44 [.slice s0.a s0.n s0.c, .slice s1.a s1.n s1.c, .slice s2.a s2.n s2.c, .slice none 0 0]) := VB.out.later b
  have BW : Hid (Below w.heap.size w v3) := bl_next BW.out b
  have O0 : Hid (RnsO v3 (w.heap.size + 3) s0 l0) := O0.out.below b
  have O1 : Hid (DmsO v3 (w.heap.size + 3) s1 l1) := O1.out.below b
  have O2 : Hid (LtsO v3 (w.heap.size + 3) s2 l2) := O2.out.below b
  clear b
  go_wp2_with (first | (with_reducible refine wpList_haltS 26 _ _ rfl ?_))
  refine Stp.go ?_
  refine wpList_st1 rfl 26 _ _ rfl (w.heap.size + 2) 3 rfl 44 _ VB.out (.slice s3.a s3.n s3.c) rfl (by simp) rfl Try.sizeEvs [.slice s0.a s0.n s0.c, .slice s1.a s1.n s1.c, .slice s2.a s2.n s2.c, .slice s3.a s3.n s3.c] rfl ?_
  intro u3 OB TB
  have z_u3 : v3.heap.size ≤ u3.heap.size := Nat.le_of_eq TB.size.symm
  have LA : Hid (Bx u3 w.heap.size 37 [.slice x.rs.a x.rs.n x.rs.c, .slice x.ds.a x.ds.n x.ds.c, .slice x.ls.a x.ls.n x.ls.c, .slice x.ns.a x.ns.n x.ns.c]) := LA.out.turn TB (by omega)
  have EB : Hid (Bx u3 (w.heap.size + 1) 44 [.slice none 0 0, .slice none 0 0, .slice none 0 0, .slice none 0 0]) := EB.out.turn TB (by omega)
  have BW : Hid (Below w.heap.size w u3) := BW.out.trans (TB.below (by omega))
  have O0 : Hid (RnsO u3 (w.heap.size + 3) s0 l0) := O0.out.keep fun b hb _ => TB.block b (by omega)
  have O1 : Hid (DmsO u3 (w.heap.size + 3) s1 l1) := O1.out.keep fun b hb _ => TB.block b (by omega)
  have O2 : Hid (LtsO u3 (w.heap.size + 3) s2 l2) := O2.out.keep fun b hb _ => TB.block b (by omega)
  have O3 : Hid (EvsO u3 (w.heap.size + 3) s3 l3) := O3.out.keep fun b hb _ => TB.block b (by omega)
  have VB : Hid (Bx u3 (w.heap.size + 2) 44 [.slice s0.a s0.n s0.c, .slice s1.a s1.n s1.c, .slice s2.a s2.n s2.c, .slice s3.a s3.n s3.c]) := OB
  clear OB TB
  go_wp2_with (first | (refine wpList_ldG rfl 44 _ rfl (w.heap.size + 2) 0 rfl 44 _ VB.out [.slice s0.a s0.n s0.c, .slice s1.a s1.n s1.c, .slice s2.a s2.n s2.c, .slice s3.a s3.n s3.c] rfl _ Try.underlying44 rfl Try.sizeWo6 ?_) | (with_reducible refine wpList_haltS 44 _ _ rfl ?_))
  refine Stp.go ?_
  refine wpList_stB rfl 44 _ _ rfl (w.heap.size + 1) 0 rfl 44 _ EB.out [.slice s0.a s0.n s0.c, .slice s1.a s1.n s1.c, .slice s2.a s2.n s2.c, .slice s3.a s3.n s3.c] rfl (by simp) Try.sizeWo6 rfl [.slice s0.a s0.n s0.c, .slice s1.a s1.n s1.c, .slice s2.a s2.n s2.c, .slice s3.a s3.n s3.c] rfl ?_
  intro u4 OB TB
  have z_u4 : u3.heap.size ≤ u4.heap.size := Nat.le_of_eq TB.size.symm
  have LA : Hid (Bx u4 w.heap.size 37 [.slice x.rs.a x.rs.n x.rs.c, .slice x.ds.a x.ds.n x.ds.c, .slice x.ls.a x.ls.n x.ls.c, .slice x.ns.a x.ns.n x.ns.c]) := LA.out.turn TB (by omega)
  have VB : Hid (Bx u4 (w.heap.size + 2) 44 [.slice s0.a s0.n s0.c, .slice s1.a s1.n s1.c, .slice s2.a s2.n s2.c, .slice s3.a s3.n s3.c]) := VB.out.turn TB (by omega)
  have BW : Hid (Below w.heap.size w u4) := BW.out.trans (TB.below (by omega))
  have O0 : Hid (RnsO u4 (w.heap.size + 3) s0 l0) := O0.out.keep fun b hb _ => TB.block b (by omega)
  have O1 : Hid (DmsO u4 (w.heap.size + 3) s1 l1) := O1.out.keep fun b hb _ => TB.block b (by omega)
  have O2 : Hid (LtsO u4 (w.heap.size + 3) s2 l2) := O2.out.keep fun b hb _ => TB.block b (by omega)
  have O3 : Hid (EvsO u4 (w.heap.size + 3) s3 l3) := O3.out.keep fun b hb _ => TB.block b (by omega)
  have EB : Hid (Bx u4 (w.heap.size + 1) 44 [.slice s0.a s0.n s0.c, .slice s1.a s1.n s1.c, .slice s2.a s2.n s2.c, .slice s3.a s3.n s3.c]) := OB
  clear OB TB
  go_wp2_with fail
  refine bodyPost_ret (results_b Try.results18 (w.heap.size + 1) 44 [.slice s0.a s0.n s0.c, .slice s1.a s1.n s1.c, .slice s2.a s2.n s2.c, .slice s3.a s3.n s3.c] _ rfl EB.out Try.underlying44 rfl Try.sizeWo6) rfl ?_
  have q := dms_same P1.out
  exact ⟨⟨s0, l0, s1, l1, s2, l2, s3, l3⟩, rfl, ⟨P0.out.symm, q.1, q.2, P2.out.symm, P3.out.symm⟩, ⟨O0.out.down (by omega), O1.out.down (by omega), O2.out.down (by omega), O3.out.down (by omega)⟩, BW.out⟩
end Go.Proofs.Ytdodeillifoibaa


