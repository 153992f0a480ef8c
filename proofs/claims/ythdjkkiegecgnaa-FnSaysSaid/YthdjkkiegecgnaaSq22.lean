/- Joined texts: CHo CFs CFsp CFsw. -/
import Derived.Test.YthdjkkiegecgnaaSq17
import Derived.Test.YthdjkkiegecgnaaSq19
import Derived.Test.YthdjkkiegecgnaaSq13
import Derived.Test.YthdjkkiegecgnaaSq16
import Derived.Test.YthdjkkiegecgnaaSq12
import Derived.Test.YthdjkkiegecgnaaSq14
import Derived.Test.YthdjkkiegecgnaaSq20
import Derived.Test.YthdjkkiegecgnaaSq5
import Derived.Test.YthdjkkiegecgnaaSq11
import Derived.Test.YthdjkkiegecgnaaSq21
import Derived.Deep.DeepCutAuto
/- A member holds the token: the program's Hold, where it may. Written by gen_ho.py. -/
namespace Go.Proofs.Ythdjkkiegecgnaa
open Go.RowKit Pl
set_option linter.unusedVariables false
set_option linter.unusedSimpArgs false

/-- what becomes of the token, and of the member. -/
def nxQ (m : Mt) (t : Tok) : Int := numQ t.c t.r t.q t.a t.b t.ws m.id m.lv m.tx
def nxA (m : Mt) (t : Tok) : Int := numA t.c t.r t.q t.a t.b t.ws m.id m.lv m.tx
def nxTok (m : Mt) (t : Tok) : Tok := ⟨t.c, t.r + 1, nxQ m t, markA t.c t.r (nxQ m t) (nxA m t) t.b t.ws m.id (aruP (m.spoke t).its : Nat), markD t.c t.r (nxQ m t) (nxA m t) t.b t.ws m.id (aruP (m.spoke t).its : Nat), lackP t.ws (m.spoke t).its (nxQ m t)⟩
def Mt.held (m : Mt) (t : Tok) : Mt := ⟨m.id, m.rid, m.ms, (m.spoke t).its, (m.spoke t).lv, (m.spoke t).tx, t.r, t.a, lineP m.li m.se (aruP (m.spoke t).its) t.a, m.he, nxTok m t⟩
def saidL (m : Mt) (t : Tok) : List It := giveP t.ws m.its ++ freshL m t
theorem keep_below {g B : Nat} {w w' : World} (h : KeepBut g w w') (hg : B ≤ g) (hB : B ≤ w.heap.size) : Below B w w' := ⟨h.os, h.tape, h.output, h.size, fun k hk => h.block k (by omega) (by omega)⟩
theorem lackP_len (ws : List Int) (its : List It) (q : Int) : (lackP ws its q).length ≤ 20 := by unfold lackP; exact List.length_take_le _ _
theorem below_grown_new {B : Nat} {w w' : World} {row : Option Nat} (h : w.grownBy w' row) (hr : ∀ k, row = some k → B ≤ k) (hB : B ≤ w.heap.size) : Below B w w' := (Below.refl B w).grown h hB hr
theorem results_btbt {P : Program} {w : World} {fn : Func} {tmps : Array Value} {p q p2 q2 : Tmp} {ty ty2 : TypeId} (h : fn.results = #[.cell p ty, .tmp q, .cell p2 ty2, .tmp q2]) (g T : Nat) (cs : List Value) (d : TypeDesc) (hp : tmps.getD p undef = .pointer (some ⟨g, 0, none⟩)) (hB : Bx w g T cs)
    (hu : P.underlying ty = some d) (hd : d.isRow = true) (hi : (P.info? ty).map (·.size) = some cs.length) (g2 T2 : Nat) (cs2 : List Value) (d2 : TypeDesc) (hp2 : tmps.getD p2 undef = .pointer (some ⟨g2, 0, none⟩)) (hB2 : Bx w g2 T2 cs2)
    (hu2 : P.underlying ty2 = some d2) (hd2 : d2.isRow = true) (hi2 : (P.info? ty2).map (·.size) = some cs2.length) : (results fn tmps).run P w = .ok (.tuple #[.agg cs.toArray, tmps.getD q undef, .agg cs2.toArray, tmps.getD q2 undef]) w := by
  have hl := run_loadVar_mid (P := P) w g 0 ty cs d (hB.range 0 cs (by simp)) hu hd hi
  have hl2 := run_loadVar_mid (P := P) w g2 0 ty2 cs2 d2 (hB2.range 0 cs2 (by simp)) hu2 hd2 hi2
  have hp' : tmps[p]?.getD undef = .pointer (some ⟨g, 0, none⟩) := by simpa using hp
  have hp2' : tmps[p2]?.getD undef = .pointer (some ⟨g2, 0, none⟩) := by simpa using hp2
  simp [results, h, hp', hp2', asAddr, hl, hl2]
theorem give_s (t : Tok) (s u : Sv) (its : List It) (w : World) (hy : Hid (RI w s.v t.ws)) (hx : Hid (RIt w u.v its)) (hl : its.length ≤ 1048576) (hw : t.ws.length ≤ 1048576) (hs : Hid (∀ x ∈ its, x.2.2.2.size ≤ 1048576)) :
    Calls Try.prog 70 #[.agg #[.int .i64 t.c, .int .i64 t.r, .int .i64 t.q, .int .i64 t.a, .int .i64 t.b, .slice s.a s.n s.c], .slice u.a u.n u.c] w fun e w' => ∃ v : Sv, e = .returned (.slice v.a v.n v.c) ∧ SlI w' w.heap.size v.v (giveP t.ws its) ∧ Below w.heap.size w w' := by
  obtain ⟨aw, cw, e1, x1⟩ := hy.out
  obtain ⟨ao, cap, e2, x2⟩ := hx.out
  have h := give_any t.c t.r t.q t.a t.b aw cw t.ws ao cap its w x1 x2 hl hw hs
  rw [← e1, ← e2] at h
  refine h.mono ?_
  rintro e w' ⟨v, rfl, o, b⟩
  obtain ⟨z, rfl⟩ := o.sv
  exact ⟨z, rfl, o, b⟩
theorem mark_s (c r q a b d u : Int) (s : Sv) (ws : List Int) (w : World) (h : Hid (OwnI w 0 s.v ws)) (hl : ws.length ≤ 1048576) :
    Calls Try.prog 74 #[.agg #[.int .i64 c, .int .i64 r, .int .i64 q, .int .i64 a, .int .i64 b, .slice s.a s.n s.c], .int .i64 d, .int .i64 u] w fun e w' => ∃ z : Sv, e = .returned (.agg #[.int .i64 c, .int .i64 r, .int .i64 q, .int .i64 (markA c r q a b ws d u), .int .i64 (markD c r q a b ws d u), .slice z.a z.n z.c]) ∧ OwnI w' w.heap.size z.v ws ∧ Below w.heap.size w w' := by
  refine (mark_any c r q a b d u s.v ws 0 w h hl).mono ?_
  rintro e w' ⟨v, rfl, o, b⟩
  obtain ⟨z, rfl⟩ := o.sv
  exact ⟨z, rfl, o, b⟩

set_option maxRecDepth 100000 in
set_option maxHeartbeats 16000000 in
theorem hold_yes (m : Mt) (v : Mv) (t : Tok) (s : Sv) (w : World) (h : Hid (MtQ w m v)) (hs : Hid (OwnI w 0 s.v t.ws)) (hl : t.ws.length ≤ 1048576) (hsz : Hid (MtS m)) (hok : Hid (m.ok = true)) (hmay : Hid (mayB m t = true))
    (hA : Hid (Asc m.its)) (hil : m.its.length ≤ 1000000) (hll : Hid (m.lv.length = m.tx.length)) (hts : Hid (∀ x ∈ freshL m t, x.2.2.2.size ≤ 1048576)) (hrd : 0 ≤ m.rd ∧ m.rd ≤ 1000000000) (htr : 0 ≤ t.r ∧ t.r ≤ 999999999) (hpl : (putAll m.its (freshL m t)).length ≤ 1048576) (hgl : (giveP t.ws m.its).length ≤ 1000000) :
    Calls Try.prog 20 #[.agg #[.int .i64 m.id, .int .i64 m.rid, .slice v.ms.a v.ms.n v.ms.c, .slice v.its.a v.its.n v.its.c, .slice v.lv.a v.lv.n v.lv.c, .slice v.tx.a v.tx.n v.tx.c, .int .i64 m.rd, .int .i64 m.se, .int .i64 m.li, .int .i64 m.he, .int .i64 m.la.c, .int .i64 m.la.r, .int .i64 m.la.q, .int .i64 m.la.a, .int .i64 m.la.b, .slice v.ws.a v.ws.n v.ws.c], .agg #[.int .i64 t.c, .int .i64 t.r, .int .i64 t.q, .int .i64 t.a, .int .i64 t.b, .slice s.a s.n s.c]] w fun e w' => ∃ (u : Mv) (fs sn : Sv), e = .returned (.tuple #[.agg #[.int .i64 (m.held t).id, .int .i64 (m.held t).rid, .slice u.ms.a u.ms.n u.ms.c, .slice u.its.a u.its.n u.its.c, .slice u.lv.a u.lv.n u.lv.c, .slice u.tx.a u.tx.n u.tx.c, .int .i64 (m.held t).rd, .int .i64 (m.held t).se, .int .i64 (m.held t).li, .int .i64 (m.held t).he, .int .i64 (m.held t).la.c, .int .i64 (m.held t).la.r, .int .i64 (m.held t).la.q, .int .i64 (m.held t).la.a, .int .i64 (m.held t).la.b, .slice u.ws.a u.ws.n u.ws.c], .slice fs.a fs.n fs.c, .agg #[.int .i64 (nxTok m t).c, .int .i64 (nxTok m t).r, .int .i64 (nxTok m t).q, .int .i64 (nxTok m t).a, .int .i64 (nxTok m t).b, .slice sn.a sn.n sn.c], .bool true]) ∧ MtC w' w.heap.size (m.held t) u ∧ SlI w' 0 fs.v (saidL m t) ∧ OwnI w' 0 sn.v (nxTok m t).ws ∧ Below w.heap.size w w' := by
  have hn1 : (w.alloc (.cells #[.int .i64 m.id, .int .i64 m.rid, .slice v.ms.a v.ms.n v.ms.c, .slice v.its.a v.its.n v.its.c, .slice v.lv.a v.lv.n v.lv.c, .slice v.tx.a v.tx.n v.tx.c, .int .i64 m.rd, .int .i64 m.se, .int .i64 m.li, .int .i64 m.he, .int .i64 m.la.c, .int .i64 m.la.r, .int .i64 m.la.q, .int .i64 m.la.a, .int .i64 m.la.b, .slice v.ws.a v.ws.n v.ws.c] 32)).heap.size = w.heap.size + 1 := by simp
  have hn2 : ((w.alloc (.cells #[.int .i64 m.id, .int .i64 m.rid, .slice v.ms.a v.ms.n v.ms.c, .slice v.its.a v.its.n v.its.c, .slice v.lv.a v.lv.n v.lv.c, .slice v.tx.a v.tx.n v.tx.c, .int .i64 m.rd, .int .i64 m.se, .int .i64 m.li, .int .i64 m.he, .int .i64 m.la.c, .int .i64 m.la.r, .int .i64 m.la.q, .int .i64 m.la.a, .int .i64 m.la.b, .slice v.ws.a v.ws.n v.ws.c] 32)).alloc (.cells #[.int .i64 t.c, .int .i64 t.r, .int .i64 t.q, .int .i64 t.a, .int .i64 t.b, .slice s.a s.n s.c] 30)).heap.size = w.heap.size + 2 := by simp
  have hn3 : (((w.alloc (.cells #[.int .i64 m.id, .int .i64 m.rid, .slice v.ms.a v.ms.n v.ms.c, .slice v.its.a v.its.n v.its.c, .slice v.lv.a v.lv.n v.lv.c, .slice v.tx.a v.tx.n v.tx.c, .int .i64 m.rd, .int .i64 m.se, .int .i64 m.li, .int .i64 m.he, .int .i64 m.la.c, .int .i64 m.la.r, .int .i64 m.la.q, .int .i64 m.la.a, .int .i64 m.la.b, .slice v.ws.a v.ws.n v.ws.c] 32)).alloc (.cells #[.int .i64 t.c, .int .i64 t.r, .int .i64 t.q, .int .i64 t.a, .int .i64 t.b, .slice s.a s.n s.c] 30)).alloc (.cells #[.int .i64 0, .int .i64 0, .slice none 0 0, .slice none 0 0, .slice none 0 0, .slice none 0 0, .int .i64 0, .int .i64 0, .int .i64 0, .int .i64 0, .int .i64 0, .int .i64 0, .int .i64 0, .int .i64 0, .int .i64 0, .slice none 0 0] 32)).heap.size = w.heap.size + 3 := by simp
  have MA : Hid (Bx ((((w.alloc (.cells #[.int .i64 m.id, .int .i64 m.rid, .slice v.ms.a v.ms.n v.ms.c, .slice v.its.a v.its.n v.its.c, .slice v.lv.a v.lv.n v.lv.c, .slice v.tx.a v.tx.n v.tx.c, .int .i64 m.rd, .int .i64 m.se, .int .i64 m.li, .int .i64 m.he, .int .i64 m.la.c, .int .i64 m.la.r, .int .i64 m.la.q, .int .i64 m.la.a, .int .i64 m.la.b, .slice v.ws.a v.ws.n v.ws.c] 32)).alloc (.cells #[.int .i64 t.c, .int .i64 t.r, .int .i64 t.q, .int .i64 t.a, .int .i64 t.b, .slice s.a s.n s.c] 30)).alloc (.cells #[.int .i64 0, .int .i64 0, .slice none 0 0, .slice none 0 0, .slice none 0 0, .slice none 0 0, .int .i64 0, .int .i64 0, .int .i64 0, .int .i64 0, .int .i64 0, .int .i64 0, .int .i64 0, .int .i64 0, .int .i64 0, .slice none 0 0] 32)).alloc (.cells #[.int .i64 0, .int .i64 0, .int .i64 0, .int .i64 0, .int .i64 0, .slice none 0 0] 30)) w.heap.size 32 [.int .i64 m.id, .int .i64 m.rid, .slice v.ms.a v.ms.n v.ms.c, .slice v.its.a v.its.n v.its.c, .slice v.lv.a v.lv.n v.lv.c, .slice v.tx.a v.tx.n v.tx.c, .int .i64 m.rd, .int .i64 m.se, .int .i64 m.li, .int .i64 m.he, .int .i64 m.la.c, .int .i64 m.la.r, .int .i64 m.la.q, .int .i64 m.la.a, .int .i64 m.la.b, .slice v.ws.a v.ws.n v.ws.c]) := by
    have h := Bx.new w 32 [.int .i64 m.id, .int .i64 m.rid, .slice v.ms.a v.ms.n v.ms.c, .slice v.its.a v.its.n v.its.c, .slice v.lv.a v.lv.n v.lv.c, .slice v.tx.a v.tx.n v.tx.c, .int .i64 m.rd, .int .i64 m.se, .int .i64 m.li, .int .i64 m.he, .int .i64 m.la.c, .int .i64 m.la.r, .int .i64 m.la.q, .int .i64 m.la.a, .int .i64 m.la.b, .slice v.ws.a v.ws.n v.ws.c]
    exact (((h).later ((Below.refl _ _).alloc (Nat.le_refl _) _)).later ((Below.refl _ _).alloc (Nat.le_refl _) _)).later ((Below.refl _ _).alloc (Nat.le_refl _) _)
  have TT : Hid (Bx ((((w.alloc (.cells #[.int .i64 m.id, .int .i64 m.rid, .slice v.ms.a v.ms.n v.ms.c, .slice v.its.a v.its.n v.its.c, .slice v.lv.a v.lv.n v.lv.c, .slice v.tx.a v.tx.n v.tx.c, .int .i64 m.rd, .int .i64 m.se, .int .i64 m.li, .int .i64 m.he, .int .i64 m.la.c, .int .i64 m.la.r, .int .i64 m.la.q, .int .i64 m.la.a, .int .i64 m.la.b, .slice v.ws.a v.ws.n v.ws.c] 32)).alloc (.cells #[.int .i64 t.c, .int .i64 t.r, .int .i64 t.q, .int .i64 t.a, .int .i64 t.b, .slice s.a s.n s.c] 30)).alloc (.cells #[.int .i64 0, .int .i64 0, .slice none 0 0, .slice none 0 0, .slice none 0 0, .slice none 0 0, .int .i64 0, .int .i64 0, .int .i64 0, .int .i64 0, .int .i64 0, .int .i64 0, .int .i64 0, .int .i64 0, .int .i64 0, .slice none 0 0] 32)).alloc (.cells #[.int .i64 0, .int .i64 0, .int .i64 0, .int .i64 0, .int .i64 0, .slice none 0 0] 30)) (w.heap.size + 1) 30 [.int .i64 t.c, .int .i64 t.r, .int .i64 t.q, .int .i64 t.a, .int .i64 t.b, .slice s.a s.n s.c]) := by
    have h := Bx.new (w.alloc (.cells #[.int .i64 m.id, .int .i64 m.rid, .slice v.ms.a v.ms.n v.ms.c, .slice v.its.a v.its.n v.its.c, .slice v.lv.a v.lv.n v.lv.c, .slice v.tx.a v.tx.n v.tx.c, .int .i64 m.rd, .int .i64 m.se, .int .i64 m.li, .int .i64 m.he, .int .i64 m.la.c, .int .i64 m.la.r, .int .i64 m.la.q, .int .i64 m.la.a, .int .i64 m.la.b, .slice v.ws.a v.ws.n v.ws.c] 32)) 30 [.int .i64 t.c, .int .i64 t.r, .int .i64 t.q, .int .i64 t.a, .int .i64 t.b, .slice s.a s.n s.c]
    rw [hn1] at h
    exact ((h).later ((Below.refl _ _).alloc (Nat.le_refl _) _)).later ((Below.refl _ _).alloc (Nat.le_refl _) _)
  have RM : Hid (Bx ((((w.alloc (.cells #[.int .i64 m.id, .int .i64 m.rid, .slice v.ms.a v.ms.n v.ms.c, .slice v.its.a v.its.n v.its.c, .slice v.lv.a v.lv.n v.lv.c, .slice v.tx.a v.tx.n v.tx.c, .int .i64 m.rd, .int .i64 m.se, .int .i64 m.li, .int .i64 m.he, .int .i64 m.la.c, .int .i64 m.la.r, .int .i64 m.la.q, .int .i64 m.la.a, .int .i64 m.la.b, .slice v.ws.a v.ws.n v.ws.c] 32)).alloc (.cells #[.int .i64 t.c, .int .i64 t.r, .int .i64 t.q, .int .i64 t.a, .int .i64 t.b, .slice s.a s.n s.c] 30)).alloc (.cells #[.int .i64 0, .int .i64 0, .slice none 0 0, .slice none 0 0, .slice none 0 0, .slice none 0 0, .int .i64 0, .int .i64 0, .int .i64 0, .int .i64 0, .int .i64 0, .int .i64 0, .int .i64 0, .int .i64 0, .int .i64 0, .slice none 0 0] 32)).alloc (.cells #[.int .i64 0, .int .i64 0, .int .i64 0, .int .i64 0, .int .i64 0, .slice none 0 0] 30)) (w.heap.size + 2) 32 [.int .i64 0, .int .i64 0, .slice none 0 0, .slice none 0 0, .slice none 0 0, .slice none 0 0, .int .i64 0, .int .i64 0, .int .i64 0, .int .i64 0, .int .i64 0, .int .i64 0, .int .i64 0, .int .i64 0, .int .i64 0, .slice none 0 0]) := by
    have h := Bx.new ((w.alloc (.cells #[.int .i64 m.id, .int .i64 m.rid, .slice v.ms.a v.ms.n v.ms.c, .slice v.its.a v.its.n v.its.c, .slice v.lv.a v.lv.n v.lv.c, .slice v.tx.a v.tx.n v.tx.c, .int .i64 m.rd, .int .i64 m.se, .int .i64 m.li, .int .i64 m.he, .int .i64 m.la.c, .int .i64 m.la.r, .int .i64 m.la.q, .int .i64 m.la.a, .int .i64 m.la.b, .slice v.ws.a v.ws.n v.ws.c] 32)).alloc (.cells #[.int .i64 t.c, .int .i64 t.r, .int .i64 t.q, .int .i64 t.a, .int .i64 t.b, .slice s.a s.n s.c] 30)) 32 [.int .i64 0, .int .i64 0, .slice none 0 0, .slice none 0 0, .slice none 0 0, .slice none 0 0, .int .i64 0, .int .i64 0, .int .i64 0, .int .i64 0, .int .i64 0, .int .i64 0, .int .i64 0, .int .i64 0, .int .i64 0, .slice none 0 0]
    rw [hn2] at h
    exact (h).later ((Below.refl _ _).alloc (Nat.le_refl _) _)
  have RT : Hid (Bx ((((w.alloc (.cells #[.int .i64 m.id, .int .i64 m.rid, .slice v.ms.a v.ms.n v.ms.c, .slice v.its.a v.its.n v.its.c, .slice v.lv.a v.lv.n v.lv.c, .slice v.tx.a v.tx.n v.tx.c, .int .i64 m.rd, .int .i64 m.se, .int .i64 m.li, .int .i64 m.he, .int .i64 m.la.c, .int .i64 m.la.r, .int .i64 m.la.q, .int .i64 m.la.a, .int .i64 m.la.b, .slice v.ws.a v.ws.n v.ws.c] 32)).alloc (.cells #[.int .i64 t.c, .int .i64 t.r, .int .i64 t.q, .int .i64 t.a, .int .i64 t.b, .slice s.a s.n s.c] 30)).alloc (.cells #[.int .i64 0, .int .i64 0, .slice none 0 0, .slice none 0 0, .slice none 0 0, .slice none 0 0, .int .i64 0, .int .i64 0, .int .i64 0, .int .i64 0, .int .i64 0, .int .i64 0, .int .i64 0, .int .i64 0, .int .i64 0, .slice none 0 0] 32)).alloc (.cells #[.int .i64 0, .int .i64 0, .int .i64 0, .int .i64 0, .int .i64 0, .slice none 0 0] 30)) (w.heap.size + 3) 30 [.int .i64 0, .int .i64 0, .int .i64 0, .int .i64 0, .int .i64 0, .slice none 0 0]) := by
    have h := Bx.new (((w.alloc (.cells #[.int .i64 m.id, .int .i64 m.rid, .slice v.ms.a v.ms.n v.ms.c, .slice v.its.a v.its.n v.its.c, .slice v.lv.a v.lv.n v.lv.c, .slice v.tx.a v.tx.n v.tx.c, .int .i64 m.rd, .int .i64 m.se, .int .i64 m.li, .int .i64 m.he, .int .i64 m.la.c, .int .i64 m.la.r, .int .i64 m.la.q, .int .i64 m.la.a, .int .i64 m.la.b, .slice v.ws.a v.ws.n v.ws.c] 32)).alloc (.cells #[.int .i64 t.c, .int .i64 t.r, .int .i64 t.q, .int .i64 t.a, .int .i64 t.b, .slice s.a s.n s.c] 30)).alloc (.cells #[.int .i64 0, .int .i64 0, .slice none 0 0, .slice none 0 0, .slice none 0 0, .slice none 0 0, .int .i64 0, .int .i64 0, .int .i64 0, .int .i64 0, .int .i64 0, .int .i64 0, .int .i64 0, .int .i64 0, .int .i64 0, .slice none 0 0] 32)) 30 [.int .i64 0, .int .i64 0, .int .i64 0, .int .i64 0, .int .i64 0, .slice none 0 0]
    rw [hn3] at h
    exact h
  have BW : Hid (Below w.heap.size w ((((w.alloc (.cells #[.int .i64 m.id, .int .i64 m.rid, .slice v.ms.a v.ms.n v.ms.c, .slice v.its.a v.its.n v.its.c, .slice v.lv.a v.lv.n v.lv.c, .slice v.tx.a v.tx.n v.tx.c, .int .i64 m.rd, .int .i64 m.se, .int .i64 m.li, .int .i64 m.he, .int .i64 m.la.c, .int .i64 m.la.r, .int .i64 m.la.q, .int .i64 m.la.a, .int .i64 m.la.b, .slice v.ws.a v.ws.n v.ws.c] 32)).alloc (.cells #[.int .i64 t.c, .int .i64 t.r, .int .i64 t.q, .int .i64 t.a, .int .i64 t.b, .slice s.a s.n s.c] 30)).alloc (.cells #[.int .i64 0, .int .i64 0, .slice none 0 0, .slice none 0 0, .slice none 0 0, .slice none 0 0, .int .i64 0, .int .i64 0, .int .i64 0, .int .i64 0, .int .i64 0, .int .i64 0, .int .i64 0, .int .i64 0, .int .i64 0, .slice none 0 0] 32)).alloc (.cells #[.int .i64 0, .int .i64 0, .int .i64 0, .int .i64 0, .int .i64 0, .slice none 0 0] 30))) := (((((Below.refl _ _).alloc (Nat.le_refl _) _).alloc (by simp) _).alloc (by simp; omega) _).alloc (by simp; omega) _)
  have QM : Hid (MtQ ((((w.alloc (.cells #[.int .i64 m.id, .int .i64 m.rid, .slice v.ms.a v.ms.n v.ms.c, .slice v.its.a v.its.n v.its.c, .slice v.lv.a v.lv.n v.lv.c, .slice v.tx.a v.tx.n v.tx.c, .int .i64 m.rd, .int .i64 m.se, .int .i64 m.li, .int .i64 m.he, .int .i64 m.la.c, .int .i64 m.la.r, .int .i64 m.la.q, .int .i64 m.la.a, .int .i64 m.la.b, .slice v.ws.a v.ws.n v.ws.c] 32)).alloc (.cells #[.int .i64 t.c, .int .i64 t.r, .int .i64 t.q, .int .i64 t.a, .int .i64 t.b, .slice s.a s.n s.c] 30)).alloc (.cells #[.int .i64 0, .int .i64 0, .slice none 0 0, .slice none 0 0, .slice none 0 0, .slice none 0 0, .int .i64 0, .int .i64 0, .int .i64 0, .int .i64 0, .int .i64 0, .int .i64 0, .int .i64 0, .int .i64 0, .int .i64 0, .slice none 0 0] 32)).alloc (.cells #[.int .i64 0, .int .i64 0, .int .i64 0, .int .i64 0, .int .i64 0, .slice none 0 0] 30)) m v) := h.out.later BW.out
  have SW : Hid (OwnI ((((w.alloc (.cells #[.int .i64 m.id, .int .i64 m.rid, .slice v.ms.a v.ms.n v.ms.c, .slice v.its.a v.its.n v.its.c, .slice v.lv.a v.lv.n v.lv.c, .slice v.tx.a v.tx.n v.tx.c, .int .i64 m.rd, .int .i64 m.se, .int .i64 m.li, .int .i64 m.he, .int .i64 m.la.c, .int .i64 m.la.r, .int .i64 m.la.q, .int .i64 m.la.a, .int .i64 m.la.b, .slice v.ws.a v.ws.n v.ws.c] 32)).alloc (.cells #[.int .i64 t.c, .int .i64 t.r, .int .i64 t.q, .int .i64 t.a, .int .i64 t.b, .slice s.a s.n s.c] 30)).alloc (.cells #[.int .i64 0, .int .i64 0, .slice none 0 0, .slice none 0 0, .slice none 0 0, .slice none 0 0, .int .i64 0, .int .i64 0, .int .i64 0, .int .i64 0, .int .i64 0, .int .i64 0, .int .i64 0, .int .i64 0, .int .i64 0, .slice none 0 0] 32)).alloc (.cells #[.int .i64 0, .int .i64 0, .int .i64 0, .int .i64 0, .int .i64 0, .slice none 0 0] 30)) 0 s.v t.ws) := hs.out.keep fun _ _ hk => BW.out.block _ hk
  clear h hs hn1 hn2 hn3
  obtain ⟨NQ, hNQ⟩ : ∃ x, x = nxQ m t := ⟨_, rfl⟩
  have HNQ : Hid _ := hNQ
  clear hNQ
  obtain ⟨NA, hNA⟩ : ∃ x, x = nxA m t := ⟨_, rfl⟩
  have HNA : Hid _ := hNA
  clear hNA
  go_enter Try.func20, Try.ntmps20
  go_wp2_with (first | (refine wpList_ldG rfl 32 _ rfl w.heap.size 0 rfl 32 _ MA.out [.int .i64 m.id, .int .i64 m.rid, .slice v.ms.a v.ms.n v.ms.c, .slice v.its.a v.its.n v.its.c, .slice v.lv.a v.lv.n v.lv.c, .slice v.tx.a v.tx.n v.tx.c, .int .i64 m.rd, .int .i64 m.se, .int .i64 m.li, .int .i64 m.he, .int .i64 m.la.c, .int .i64 m.la.r, .int .i64 m.la.q, .int .i64 m.la.a, .int .i64 m.la.b, .slice v.ws.a v.ws.n v.ws.c] rfl _ Try.underlying32 rfl Try.sizeM ?_))
  generalize ((((w.alloc (.cells #[.int .i64 m.id, .int .i64 m.rid, .slice v.ms.a v.ms.n v.ms.c, .slice v.its.a v.its.n v.its.c, .slice v.lv.a v.lv.n v.lv.c, .slice v.tx.a v.tx.n v.tx.c, .int .i64 m.rd, .int .i64 m.se, .int .i64 m.li, .int .i64 m.he, .int .i64 m.la.c, .int .i64 m.la.r, .int .i64 m.la.q, .int .i64 m.la.a, .int .i64 m.la.b, .slice v.ws.a v.ws.n v.ws.c] 32)).alloc (.cells #[.int .i64 t.c, .int .i64 t.r, .int .i64 t.q, .int .i64 t.a, .int .i64 t.b, .slice s.a s.n s.c] 30)).alloc (.cells #[.int .i64 0, .int .i64 0, .slice none 0 0, .slice none 0 0, .slice none 0 0, .slice none 0 0, .int .i64 0, .int .i64 0, .int .i64 0, .int .i64 0, .int .i64 0, .int .i64 0, .int .i64 0, .int .i64 0, .int .i64 0, .slice none 0 0] 32)).alloc (.cells #[.int .i64 0, .int .i64 0, .int .i64 0, .int .i64 0, .int .i64 0, .slice none 0 0] 30)) = W at *
  have zW : w.heap.size + 3 < W.heap.size := RT.out.lt
  refine (memberOf_q m v _ QM hsz).mono ?_
  rintro e w1 ⟨g, u, rfl, g1, o1, zg, b1⟩
  have MA : Hid (Bx w1 w.heap.size 32 [.int .i64 m.id, .int .i64 m.rid, .slice v.ms.a v.ms.n v.ms.c, .slice v.its.a v.its.n v.its.c, .slice v.lv.a v.lv.n v.lv.c, .slice v.tx.a v.tx.n v.tx.c, .int .i64 m.rd, .int .i64 m.se, .int .i64 m.li, .int .i64 m.he, .int .i64 m.la.c, .int .i64 m.la.r, .int .i64 m.la.q, .int .i64 m.la.a, .int .i64 m.la.b, .slice v.ws.a v.ws.n v.ws.c]) := MA.out.later b1
  have TT : Hid (Bx w1 (w.heap.size + 1) 30 [.int .i64 t.c, .int .i64 t.r, .int .i64 t.q, .int .i64 t.a, .int .i64 t.b, .slice s.a s.n s.c]) := TT.out.later b1
  have RM : Hid (Bx w1 (w.heap.size + 2) 32 [.int .i64 0, .int .i64 0, .slice none 0 0, .slice none 0 0, .slice none 0 0, .slice none 0 0, .int .i64 0, .int .i64 0, .int .i64 0, .int .i64 0, .int .i64 0, .int .i64 0, .int .i64 0, .int .i64 0, .int .i64 0, .slice none 0 0]) := RM.out.later b1
  have RT : Hid (Bx w1 (w.heap.size + 3) 30 [.int .i64 0, .int .i64 0, .int .i64 0, .int .i64 0, .int .i64 0, .slice none 0 0]) := RT.out.later b1
  have BW : Hid (Below w.heap.size w w1) := bl_next BW.out b1
  have QM : Hid (MtQ w1 m v) := QM.out.later b1
  have SW : Hid (OwnI w1 0 (s.v) (t.ws)) := SW.out.keep fun _ _ hk => b1.block _ hk
  have G : Hid (Bx w1 g 115 [.slice u.its.a u.its.n u.its.c, .int .i64 m.id, .int .i64 m.rid, .slice u.ms.a u.ms.n u.ms.c, .slice zSv.a zSv.n zSv.c, .slice u.lv.a u.lv.n u.lv.c, .slice u.tx.a u.tx.n u.tx.c, .int .i64 m.rd, .int .i64 m.se, .int .i64 m.li, .int .i64 m.he, .int .i64 m.la.c, .int .i64 m.la.r, .int .i64 m.la.q, .int .i64 m.la.a, .int .i64 m.la.b, .slice u.ws.a u.ws.n u.ws.c]) := g1
  have O : Hid (MtO w1 W.heap.size m u) := o1
  have zg1 : g < w1.heap.size := G.out.lt
  clear g1 o1 b1
  go_wp2_with (first | (refine wpList_ldG rfl 32 _ rfl w.heap.size 0 rfl 32 _ MA.out [.int .i64 m.id, .int .i64 m.rid, .slice v.ms.a v.ms.n v.ms.c, .slice v.its.a v.its.n v.its.c, .slice v.lv.a v.lv.n v.lv.c, .slice v.tx.a v.tx.n v.tx.c, .int .i64 m.rd, .int .i64 m.se, .int .i64 m.li, .int .i64 m.he, .int .i64 m.la.c, .int .i64 m.la.r, .int .i64 m.la.q, .int .i64 m.la.a, .int .i64 m.la.b, .slice v.ws.a v.ws.n v.ws.c] rfl _ Try.underlying32 rfl Try.sizeM ?_))
  refine (mateOk_any m v _ (show Hid (MtR w1 m v) from QM.out.r) hsz).mono ?_
  rintro e w2 ⟨rfl, b2⟩
  have MA : Hid (Bx w2 w.heap.size 32 [.int .i64 m.id, .int .i64 m.rid, .slice v.ms.a v.ms.n v.ms.c, .slice v.its.a v.its.n v.its.c, .slice v.lv.a v.lv.n v.lv.c, .slice v.tx.a v.tx.n v.tx.c, .int .i64 m.rd, .int .i64 m.se, .int .i64 m.li, .int .i64 m.he, .int .i64 m.la.c, .int .i64 m.la.r, .int .i64 m.la.q, .int .i64 m.la.a, .int .i64 m.la.b, .slice v.ws.a v.ws.n v.ws.c]) := MA.out.later b2
  have TT : Hid (Bx w2 (w.heap.size + 1) 30 [.int .i64 t.c, .int .i64 t.r, .int .i64 t.q, .int .i64 t.a, .int .i64 t.b, .slice s.a s.n s.c]) := TT.out.later b2
  have RM : Hid (Bx w2 (w.heap.size + 2) 32 [.int .i64 0, .int .i64 0, .slice none 0 0, .slice none 0 0, .slice none 0 0, .slice none 0 0, .int .i64 0, .int .i64 0, .int .i64 0, .int .i64 0, .int .i64 0, .int .i64 0, .int .i64 0, .int .i64 0, .int .i64 0, .slice none 0 0]) := RM.out.later b2
  have RT : Hid (Bx w2 (w.heap.size + 3) 30 [.int .i64 0, .int .i64 0, .int .i64 0, .int .i64 0, .int .i64 0, .slice none 0 0]) := RT.out.later b2
  have BW : Hid (Below w.heap.size w w2) := bl_next BW.out b2
  have QM : Hid (MtQ w2 m v) := QM.out.later b2
  have SW : Hid (OwnI w2 0 (s.v) (t.ws)) := SW.out.keep fun _ _ hk => b2.block _ hk
  have G : Hid (Bx w2 g 115 [.slice u.its.a u.its.n u.its.c, .int .i64 m.id, .int .i64 m.rid, .slice u.ms.a u.ms.n u.ms.c, .slice zSv.a zSv.n zSv.c, .slice u.lv.a u.lv.n u.lv.c, .slice u.tx.a u.tx.n u.tx.c, .int .i64 m.rd, .int .i64 m.se, .int .i64 m.li, .int .i64 m.he, .int .i64 m.la.c, .int .i64 m.la.r, .int .i64 m.la.q, .int .i64 m.la.a, .int .i64 m.la.b, .slice u.ws.a u.ws.n u.ws.c]) := G.out.later b2
  have O : Hid (MtO w2 W.heap.size m u) := O.out.later b2
  rw [hok.out]
  clear b2
  go_wp2_with (first | (refine wpList_ldG rfl 30 _ rfl (w.heap.size + 1) 0 rfl 30 _ TT.out [.int .i64 t.c, .int .i64 t.r, .int .i64 t.q, .int .i64 t.a, .int .i64 t.b, .slice s.a s.n s.c] rfl _ Try.underlying30 rfl Try.sizeT ?_))
  refine (mayHold_any m u zSv g t s _ G (show Hid (RI w2 s.v t.ws) from SW.out.ri) hl hrd).mono ?_
  rintro e w3 ⟨rfl, b3⟩
  have MA : Hid (Bx w3 w.heap.size 32 [.int .i64 m.id, .int .i64 m.rid, .slice v.ms.a v.ms.n v.ms.c, .slice v.its.a v.its.n v.its.c, .slice v.lv.a v.lv.n v.lv.c, .slice v.tx.a v.tx.n v.tx.c, .int .i64 m.rd, .int .i64 m.se, .int .i64 m.li, .int .i64 m.he, .int .i64 m.la.c, .int .i64 m.la.r, .int .i64 m.la.q, .int .i64 m.la.a, .int .i64 m.la.b, .slice v.ws.a v.ws.n v.ws.c]) := MA.out.later b3
  have TT : Hid (Bx w3 (w.heap.size + 1) 30 [.int .i64 t.c, .int .i64 t.r, .int .i64 t.q, .int .i64 t.a, .int .i64 t.b, .slice s.a s.n s.c]) := TT.out.later b3
  have RM : Hid (Bx w3 (w.heap.size + 2) 32 [.int .i64 0, .int .i64 0, .slice none 0 0, .slice none 0 0, .slice none 0 0, .slice none 0 0, .int .i64 0, .int .i64 0, .int .i64 0, .int .i64 0, .int .i64 0, .int .i64 0, .int .i64 0, .int .i64 0, .int .i64 0, .slice none 0 0]) := RM.out.later b3
  have RT : Hid (Bx w3 (w.heap.size + 3) 30 [.int .i64 0, .int .i64 0, .int .i64 0, .int .i64 0, .int .i64 0, .slice none 0 0]) := RT.out.later b3
  have BW : Hid (Below w.heap.size w w3) := bl_next BW.out b3
  have QM : Hid (MtQ w3 m v) := QM.out.later b3
  have SW : Hid (OwnI w3 0 (s.v) (t.ws)) := SW.out.keep fun _ _ hk => b3.block _ hk
  have G : Hid (Bx w3 g 115 [.slice u.its.a u.its.n u.its.c, .int .i64 m.id, .int .i64 m.rid, .slice u.ms.a u.ms.n u.ms.c, .slice zSv.a zSv.n zSv.c, .slice u.lv.a u.lv.n u.lv.c, .slice u.tx.a u.tx.n u.tx.c, .int .i64 m.rd, .int .i64 m.se, .int .i64 m.li, .int .i64 m.he, .int .i64 m.la.c, .int .i64 m.la.r, .int .i64 m.la.q, .int .i64 m.la.a, .int .i64 m.la.b, .slice u.ws.a u.ws.n u.ws.c]) := G.out.later b3
  have O : Hid (MtO w3 W.heap.size m u) := O.out.later b3
  rw [hmay.out]
  clear b3
  clear QM MA
  go_wp2_with fail
  have c4 : Below w3.heap.size w3 w3.drew := (Below.refl _ _).drew
  refine wp_region_held_drew (S := fun w' => Below w3.heap.size w3 w') (by kernel_rfl) c4 (fun hHeld => ?_)
  refine wpAnyH_take (i := 0) (v := _) rfl (by kernel_rfl) (by kernel_rfl) (by kernel_rfl) (fun _ _ _ h => h) (ld_yield (by rfl) 30 _ rfl (w.heap.size + 1) 0 rfl 30 _ (fun w hS => TT.out.later hS) [.int .i64 t.c, .int .i64 t.r, .int .i64 t.q, .int .i64 t.a, .int .i64 t.b, .slice s.a s.n s.c] rfl _ Try.underlying30 rfl Try.sizeT) (by assumption) ?_
  try simp only [Act.put, List.getElem_toArray, List.getElem_cons_zero, List.getElem_cons_succ, List.setIfInBounds_toArray, List.set_cons_zero, List.set_cons_succ]
  refine wpAnyH_take (i := 1) (v := ?v1b2) rfl (by kernel_rfl) (by kernel_rfl) (by kernel_rfl) (fun _ _ _ h => h) (Or.inl ⟨by rfl, ?hy1b2⟩) (by assumption) ?_
  case hy1b2 => (intro w hSw; (try dsimp only at hSw); simp only [List.getElem_toArray, List.getElem_cons_zero, List.getElem_cons_succ]; go_simp; try with_reducible rfl)
  try simp only [Act.put, List.getElem_toArray, List.getElem_cons_zero, List.getElem_cons_succ, List.setIfInBounds_toArray, List.set_cons_zero, List.set_cons_succ]
  refine wpAnyH_take (i := 2) (v := ?v2b3) rfl (by kernel_rfl) (by kernel_rfl) (by kernel_rfl) (fun _ _ _ h => h) (Or.inl ⟨by rfl, ?hy2b3⟩) (by assumption) ?_
  case hy2b3 => (intro w hSw; (try dsimp only at hSw); simp only [List.getElem_toArray, List.getElem_cons_zero, List.getElem_cons_succ]; go_simp; try with_reducible rfl)
  try simp only [Act.put, List.getElem_toArray, List.getElem_cons_zero, List.getElem_cons_succ, List.setIfInBounds_toArray, List.set_cons_zero, List.set_cons_succ]
  refine wpAnyH_take (i := 3) (v := ?v3b4) rfl (by kernel_rfl) (by kernel_rfl) (by kernel_rfl) (fun _ _ _ h => h) (Or.inl ⟨by rfl, ?hy3b4⟩) (by assumption) ?_
  case hy3b4 => (intro w hSw; (try dsimp only at hSw); simp only [List.getElem_toArray, List.getElem_cons_zero, List.getElem_cons_succ]; go_simp; try with_reducible rfl)
  try simp only [Act.put, List.getElem_toArray, List.getElem_cons_zero, List.getElem_cons_succ, List.setIfInBounds_toArray, List.set_cons_zero, List.set_cons_succ]
  refine wpAnyH_take (i := 4) (v := _) rfl (by kernel_rfl) (by kernel_rfl) (by kernel_rfl) (fun _ _ _ h => h) (ld1_yield (by rfl) 113 _ rfl g 0 rfl 115 _ (fun w hS => G.out.later hS) (.slice u.its.a u.its.n u.its.c) rfl _ Try.underlying113 rfl) (by assumption) ?_
  try simp only [Act.put, List.getElem_toArray, List.getElem_cons_zero, List.getElem_cons_succ, List.setIfInBounds_toArray, List.set_cons_zero, List.set_cons_succ]
  refine wpAnyH_ready (rs := [5]) (by kernel_rfl) (by simp) ?_
  refine AllReadyH.cons (i := 5) rfl (fun K hK => ?_) AllReadyH.nil
  rw [if_pos (by rfl)]
  simp only [List.getElem_toArray, List.getElem_cons_zero, List.getElem_cons_succ]
  go_simp
  refine (give_s t s u.its m.its _ (show Hid (RI w3.drew s.v t.ws) from SW.out.ri.stays c4) (show Hid (RIt w3.drew u.its.v m.its) from O.out.its.rit.stays c4) hsz.out.its hl hsz.out.it).mono ?_
  rintro e w4 ⟨sd, rfl, o4, b4⟩
  have b4 : Below w3.heap.size w3 w4 := bl_next c4 b4
  refine hK.out _ _ (b4) (fun hHeld => ?_)
  clear hK K
  try simp only [Act.put, List.getElem_toArray, List.getElem_cons_zero, List.getElem_cons_succ, List.setIfInBounds_toArray, List.set_cons_zero, List.set_cons_succ]
  refine wpAnyH_take (i := 6) (v := ?v6b6) rfl (by kernel_rfl) (by kernel_rfl) (by kernel_rfl) (fun _ _ _ h => h) (Or.inl ⟨by rfl, ?hy6b6⟩) (by assumption) ?_
  case hy6b6 => (intro w hSw; (try dsimp only at hSw); simp only [List.getElem_toArray, List.getElem_cons_zero, List.getElem_cons_succ]; go_simp; try with_reducible rfl)
  try simp only [Act.put, List.getElem_toArray, List.getElem_cons_zero, List.getElem_cons_succ, List.setIfInBounds_toArray, List.set_cons_zero, List.set_cons_succ]
  refine wpAnyH_done (by kernel_rfl) ?_ _
  have zsd : Hid (∀ k, sd.v.ownBlock = some k → w3.heap.size ≤ k) := fun k hk => (SlI.lt o4 k hk).1
  have z3 : Hid (∀ k, u.its.v.ownBlock = some k → k < w3.heap.size) := fun k hk => (SlI.lt O.out.its k hk).2
  have zg3 : g < w3.heap.size := G.out.lt
  have TT : Hid (Bx w4 (w.heap.size + 1) 30 [.int .i64 t.c, .int .i64 t.r, .int .i64 t.q, .int .i64 t.a, .int .i64 t.b, .slice s.a s.n s.c]) := TT.out.later b4
  have RM : Hid (Bx w4 (w.heap.size + 2) 32 [.int .i64 0, .int .i64 0, .slice none 0 0, .slice none 0 0, .slice none 0 0, .slice none 0 0, .int .i64 0, .int .i64 0, .int .i64 0, .int .i64 0, .int .i64 0, .int .i64 0, .int .i64 0, .int .i64 0, .int .i64 0, .slice none 0 0]) := RM.out.later b4
  have RT : Hid (Bx w4 (w.heap.size + 3) 30 [.int .i64 0, .int .i64 0, .int .i64 0, .int .i64 0, .int .i64 0, .slice none 0 0]) := RT.out.later b4
  have BW : Hid (Below w.heap.size w w4) := bl_next BW.out b4
  have SW : Hid (OwnI w4 0 (s.v) (t.ws)) := SW.out.keep fun _ _ hk => b4.block _ hk
  have G : Hid (Bx w4 g 115 [.slice u.its.a u.its.n u.its.c, .int .i64 m.id, .int .i64 m.rid, .slice u.ms.a u.ms.n u.ms.c, .slice zSv.a zSv.n zSv.c, .slice u.lv.a u.lv.n u.lv.c, .slice u.tx.a u.tx.n u.tx.c, .int .i64 m.rd, .int .i64 m.se, .int .i64 m.li, .int .i64 m.he, .int .i64 m.la.c, .int .i64 m.la.r, .int .i64 m.la.q, .int .i64 m.la.a, .int .i64 m.la.b, .slice u.ws.a u.ws.n u.ws.c]) := G.out.later b4
  have O : Hid (MtO w4 W.heap.size m u) := O.out.later b4
  have SD : Hid (SlI w4 0 (sd.v) (giveP t.ws m.its)) := SlI.down o4 (Nat.zero_le _)
  have SD0 : Hid (SlI w4 0 (sd.v) (giveP t.ws m.its)) := SD
  clear o4 b4 c4 hHeld
  go_wp2_with (first | (refine wpList_ldG rfl 30 _ rfl (w.heap.size + 1) 0 rfl 30 _ TT.out [.int .i64 t.c, .int .i64 t.r, .int .i64 t.q, .int .i64 t.a, .int .i64 t.b, .slice s.a s.n s.c] rfl _ Try.underlying30 rfl Try.sizeT ?_))
  refine (speak_any m u zSv g W.heap.size t s _ G O SW hl hsz hA zg hil hll hts).mono ?_
  rintro e w5 ⟨sw, fr, n, lv, tx, rfl, g5, mc, os, of, b5, f5, nb5⟩
  obtain ⟨AR, hAR⟩ : ∃ x : Nat, x = aruP (m.spoke t).its := ⟨_, rfl⟩
  have HAR : Hid _ := hAR
  clear hAR
  obtain ⟨LI, hLI⟩ : ∃ x, x = lineP m.li m.se (aruP (m.spoke t).its) t.a := ⟨_, rfl⟩
  have HLI : Hid _ := hLI
  clear hLI
  rw [show numQ t.c t.r t.q t.a t.b t.ws m.id m.lv m.tx = NQ from HNQ.out.symm, show numA t.c t.r t.q t.a t.b t.ws m.id m.lv m.tx = NA from HNA.out.symm]
  clear SW O
  have TT : Hid (Bx w5 (w.heap.size + 1) 30 [.int .i64 t.c, .int .i64 t.r, .int .i64 t.q, .int .i64 t.a, .int .i64 t.b, .slice s.a s.n s.c]) := TT.out.stays b5 (by omega)
  have RM : Hid (Bx w5 (w.heap.size + 2) 32 [.int .i64 0, .int .i64 0, .slice none 0 0, .slice none 0 0, .slice none 0 0, .slice none 0 0, .int .i64 0, .int .i64 0, .int .i64 0, .int .i64 0, .int .i64 0, .int .i64 0, .int .i64 0, .int .i64 0, .int .i64 0, .slice none 0 0]) := RM.out.stays b5 (by omega)
  have RT : Hid (Bx w5 (w.heap.size + 3) 30 [.int .i64 0, .int .i64 0, .int .i64 0, .int .i64 0, .int .i64 0, .slice none 0 0]) := RT.out.stays b5 (by omega)
  have SD : Hid (SlI w5 0 (sd.v) (giveP t.ws m.its)) := SD.out.keep fun k hk hlt => f5 k hlt (by have := zsd.out k hk; omega) (fun e => by have := zsd.out k hk; have := z3.out k e; omega)
  have BW : Hid (Below w.heap.size w w5) := BW.out.trans (b5.mono (by omega))
  have zw5 : w4.heap.size ≤ w5.heap.size := b5.size
  have zfr : Hid (∀ k, fr.v.ownBlock = some k → w4.heap.size ≤ k) := fun k hk => (SlI.lt of k hk).1
  have zsdw : Hid (∀ k, sd.v.ownBlock = some k → w.heap.size ≤ k) := fun k hk => by have := zsd.out k hk; omega
  have zsd4 : Hid (∀ k, sd.v.ownBlock = some k → k < w4.heap.size) := fun k hk => (SlI.lt SD0.out k hk).2
  have G : Hid (Bx w5 g 115 [.slice n.a n.n n.c, .int .i64 m.id, .int .i64 m.rid, .slice u.ms.a u.ms.n u.ms.c, .slice zSv.a zSv.n zSv.c, .slice lv.a lv.n lv.c, .slice tx.a tx.n tx.c, .int .i64 m.rd, .int .i64 m.se, .int .i64 m.li, .int .i64 m.he, .int .i64 m.la.c, .int .i64 m.la.r, .int .i64 m.la.q, .int .i64 m.la.a, .int .i64 m.la.b, .slice u.ws.a u.ws.n u.ws.c]) := g5
  have MS : Hid (OwnI w5 w.heap.size (u.ms.v) (m.ms)) := mc.ms.down (by omega)
  have IT : Hid (SlI w5 w.heap.size (n.v) ((m.spoke t).its)) := SlI.down mc.its (by omega)
  have LV : Hid (SlJ w5 w.heap.size (lv.v) ((m.spoke t).lv)) := Sl.down mc.lv (by omega)
  have TX : Hid (SlX w5 w.heap.size (tx.v) ((m.spoke t).tx)) := Sl.down mc.tx (by omega)
  have OS : Hid (OwnI w5 0 (sw.v) (t.ws)) := os.down (Nat.zero_le _)
  have OF : Hid (SlI w5 0 (fr.v) (freshL m t)) := SlI.down of (Nat.zero_le _)
  have APN : Hid (∀ k, sd.v.ownBlock = some k → n.v.ownBlock ≠ some k) := by
    intro k hk e
    have h1 := zsd.out k hk
    have h2 := zsd4.out k hk
    rcases nb5 with e2 | ⟨nb, e2, z⟩
    · rw [e2] at e; exact absurd (z3.out k e) (by omega)
    · rw [e2] at e; simp at e; omega
  clear g5 mc os of b5 f5 zsd z3 SD0 nb5
  have hz : Hid (Bx (w5.alloc (.cells #[.int .i64 0, .int .i64 0, .int .i64 0, .int .i64 0, .int .i64 0, .slice none 0 0] 30)) w5.heap.size 30 [.int .i64 0, .int .i64 0, .int .i64 0, .int .i64 0, .int .i64 0, .slice none 0 0]) := Bx.new w5 30 _
  have zn5 : g < w5.heap.size := G.out.lt
  have zr5 : w.heap.size + 3 < w5.heap.size := RT.out.lt
  go_wp2_with (first | (refine wpList_haltS 30 _ _ rfl ?_))
  refine Stp.go ?_
  refine wpList_stB rfl 30 _ _ rfl w5.heap.size 0 rfl 30 _ hz.out [.int .i64 t.c, .int .i64 t.r, .int .i64 NQ, .int .i64 NA, .int .i64 t.b, .slice sw.a sw.n sw.c] rfl (by simp) Try.sizeT rfl [.int .i64 t.c, .int .i64 t.r, .int .i64 NQ, .int .i64 NA, .int .i64 t.b, .slice sw.a sw.n sw.c] rfl ?_
  intro w6 kb kt
  have b6 : Below w5.heap.size w5 w6 := ((Below.refl _ _).alloc (Nat.le_refl _) _).trans (kt.below (Nat.le_refl _))
  have TT : Hid (Bx w6 (w.heap.size + 1) 30 [.int .i64 t.c, .int .i64 t.r, .int .i64 t.q, .int .i64 t.a, .int .i64 t.b, .slice s.a s.n s.c]) := TT.out.later b6
  have RM : Hid (Bx w6 (w.heap.size + 2) 32 [.int .i64 0, .int .i64 0, .slice none 0 0, .slice none 0 0, .slice none 0 0, .slice none 0 0, .int .i64 0, .int .i64 0, .int .i64 0, .int .i64 0, .int .i64 0, .int .i64 0, .int .i64 0, .int .i64 0, .int .i64 0, .slice none 0 0]) := RM.out.later b6
  have RT : Hid (Bx w6 (w.heap.size + 3) 30 [.int .i64 0, .int .i64 0, .int .i64 0, .int .i64 0, .int .i64 0, .slice none 0 0]) := RT.out.later b6
  have BW : Hid (Below w.heap.size w w6) := bl_next BW.out b6
  have SD : Hid (SlI w6 0 (sd.v) (giveP t.ws m.its)) := SD.out.below b6
  have G : Hid (Bx w6 g 115 [.slice n.a n.n n.c, .int .i64 m.id, .int .i64 m.rid, .slice u.ms.a u.ms.n u.ms.c, .slice zSv.a zSv.n zSv.c, .slice lv.a lv.n lv.c, .slice tx.a tx.n tx.c, .int .i64 m.rd, .int .i64 m.se, .int .i64 m.li, .int .i64 m.he, .int .i64 m.la.c, .int .i64 m.la.r, .int .i64 m.la.q, .int .i64 m.la.a, .int .i64 m.la.b, .slice u.ws.a u.ws.n u.ws.c]) := G.out.later b6
  have MS : Hid (OwnI w6 w.heap.size (u.ms.v) (m.ms)) := MS.out.keep fun _ _ hk => b6.block _ hk
  have IT : Hid (SlI w6 w.heap.size (n.v) ((m.spoke t).its)) := IT.out.below b6
  have LV : Hid (SlJ w6 w.heap.size (lv.v) ((m.spoke t).lv)) := LV.out.below b6
  have TX : Hid (SlX w6 w.heap.size (tx.v) ((m.spoke t).tx)) := TX.out.below b6
  have OS : Hid (OwnI w6 0 (sw.v) (t.ws)) := OS.out.keep fun _ _ hk => b6.block _ hk
  have OF : Hid (SlI w6 0 (fr.v) (freshL m t)) := OF.out.below b6
  have NX : Hid (Bx w6 w5.heap.size 30 [.int .i64 t.c, .int .i64 t.r, .int .i64 NQ, .int .i64 NA, .int .i64 t.b, .slice sw.a sw.n sw.c]) := kb
  have a3 := TT.out.cell 3
  clear kb kt b6
  go_wp2_with fail
  clear hz
  generalize w5.heap.size = gn at *
  have hMB : Hid (MbB w6 g (m.spoke t) ⟨u.ms, n, lv, tx, u.ws⟩ zSv) := G.out
  refine (drawLine_any (m.spoke t) ⟨u.ms, n, lv, tx, u.ws⟩ zSv g w.heap.size t.a _ hMB IT hpl).mono ?_
  rintro e w7 ⟨rfl, g7, k7⟩
  have G0 : Hid (Bx w6 g 115 [.slice n.a n.n n.c, .int .i64 m.id, .int .i64 m.rid, .slice u.ms.a u.ms.n u.ms.c, .slice zSv.a zSv.n zSv.c, .slice lv.a lv.n lv.c, .slice tx.a tx.n tx.c, .int .i64 m.rd, .int .i64 m.se, .int .i64 m.li, .int .i64 m.he, .int .i64 m.la.c, .int .i64 m.la.r, .int .i64 m.la.q, .int .i64 m.la.a, .int .i64 m.la.b, .slice u.ws.a u.ws.n u.ws.c]) := G
  have KK : KeepTy (fun X => X = 115) w6 w7 := KeepTy.ofKeepBut G.out k7 rfl
  have TT : Hid (Bx w7 (w.heap.size + 1) 30 [.int .i64 t.c, .int .i64 t.r, .int .i64 t.q, .int .i64 t.a, .int .i64 t.b, .slice s.a s.n s.c]) := TT.out.kt KK (by decide)
  have RM : Hid (Bx w7 (w.heap.size + 2) 32 [.int .i64 0, .int .i64 0, .slice none 0 0, .slice none 0 0, .slice none 0 0, .slice none 0 0, .int .i64 0, .int .i64 0, .int .i64 0, .int .i64 0, .int .i64 0, .int .i64 0, .int .i64 0, .int .i64 0, .int .i64 0, .slice none 0 0]) := RM.out.kt KK (by decide)
  have RT : Hid (Bx w7 (w.heap.size + 3) 30 [.int .i64 0, .int .i64 0, .int .i64 0, .int .i64 0, .int .i64 0, .slice none 0 0]) := RT.out.kt KK (by decide)
  have BW : Hid (Below w.heap.size w w7) := BW.out.trans (keep_below k7 (by omega) BW.out.size)
  have SD : Hid (SlI w7 0 (sd.v) (giveP t.ws m.its)) := SD.out.kt KK (by decide)
  have MS : Hid (OwnI w7 w.heap.size (u.ms.v) (m.ms)) := MS.out.kt KK (by decide)
  have IT : Hid (SlI w7 w.heap.size (n.v) ((m.spoke t).its)) := IT.out.kt KK (by decide)
  have LV : Hid (SlJ w7 w.heap.size (lv.v) ((m.spoke t).lv)) := LV.out.kt KK (by decide)
  have TX : Hid (SlX w7 w.heap.size (tx.v) ((m.spoke t).tx)) := TX.out.kt KK (by decide)
  have OS : Hid (OwnI w7 0 (sw.v) (t.ws)) := OS.out.kt KK (by decide)
  have OF : Hid (SlI w7 0 (fr.v) (freshL m t)) := OF.out.kt KK (by decide)
  have NX : Hid (Bx w7 gn 30 [.int .i64 t.c, .int .i64 t.r, .int .i64 NQ, .int .i64 NA, .int .i64 t.b, .slice sw.a sw.n sw.c]) := NX.out.kt KK (by decide)
  clear KK
  have G : Hid (Bx w7 g 115 [.slice n.a n.n n.c, .int .i64 m.id, .int .i64 m.rid, .slice u.ms.a u.ms.n u.ms.c, .slice zSv.a zSv.n zSv.c, .slice lv.a lv.n lv.c, .slice tx.a tx.n tx.c, .int .i64 m.rd, .int .i64 t.a, .int .i64 LI, .int .i64 m.he, .int .i64 m.la.c, .int .i64 m.la.r, .int .i64 m.la.q, .int .i64 m.la.a, .int .i64 m.la.b, .slice u.ws.a u.ws.n u.ws.c]) := by rw [HLI.out]; exact g7
  clear g7 k7 hMB G0 a3
  obtain ⟨ML, hML⟩ : ∃ x, x = markA t.c t.r NQ NA t.b t.ws m.id ((AR : Nat) : Int) := ⟨_, rfl⟩
  have HML : Hid _ := hML
  obtain ⟨MD, hMD⟩ : ∃ x, x = markD t.c t.r NQ NA t.b t.ws m.id ((AR : Nat) : Int) := ⟨_, rfl⟩
  have HMD : Hid _ := hMD
  have ARU : Hid (∀ W', Hid (RIt W' n.v (m.spoke t).its) → Calls Try.prog 75 #[.slice n.a n.n n.c] W' fun e w' => e = .returned (.int .i64 ((AR : Nat) : Int)) ∧ Below W'.heap.size W' w') := fun W' hx => by rw [HAR.out]; exact aru_r (v := n.v) (m.spoke t).its hx hpl
  have MARK : Hid (∀ W', Hid (OwnI W' 0 sw.v t.ws) → Calls Try.prog 74 #[.agg #[.int .i64 t.c, .int .i64 t.r, .int .i64 NQ, .int .i64 NA, .int .i64 t.b, .slice sw.a sw.n sw.c], .int .i64 m.id, .int .i64 ((AR : Nat) : Int)] W' fun e w' => ∃ z : Sv, e = .returned (.agg #[.int .i64 t.c, .int .i64 t.r, .int .i64 NQ, .int .i64 ML, .int .i64 MD, .slice z.a z.n z.c]) ∧ OwnI w' W'.heap.size z.v t.ws ∧ Below W'.heap.size W' w') := fun W' hx => by rw [hML, hMD]; exact mark_s t.c t.r NQ NA t.b m.id ((AR : Nat) : Int) sw t.ws W' hx hl
  clear hML hMD
  go_wp2_with fail
  have c7 : Below w7.heap.size w7 w7.drew := (Below.refl _ _).drew
  refine wp_region_heldLast (S := fun w' => Below w7.heap.size w7 w') _ (by simp) (by kernel_rfl) (by rfl) (by rfl) (by kernel_rfl) (by kernel_rfl) c7 (fun hHeld => ?_)
  simp only [List.dropLast_cons_cons, List.dropLast_singleton, List.getLast_cons_cons, List.getLast_singleton, List.cons_append, List.nil_append, List.length_cons, List.length_nil]
  refine wpAnyH_take (i := 0) (v := _) rfl (by kernel_rfl) (by kernel_rfl) (by kernel_rfl) (fun _ _ _ h => h) (ld_yield (by rfl) 30 _ rfl gn 0 rfl 30 _ (fun w hS => NX.out.later hS) [.int .i64 t.c, .int .i64 t.r, .int .i64 NQ, .int .i64 NA, .int .i64 t.b, .slice sw.a sw.n sw.c] rfl _ Try.underlying30 rfl Try.sizeT) (by assumption) ?_
  try simp only [Act.put, List.getElem_toArray, List.getElem_cons_zero, List.getElem_cons_succ, List.setIfInBounds_toArray, List.set_cons_zero, List.set_cons_succ]
  refine wpAnyH_take (i := 1) (v := ?v1b8) rfl (by kernel_rfl) (by kernel_rfl) (by kernel_rfl) (fun _ _ _ h => h) (Or.inl ⟨by rfl, ?hy1b8⟩) (by assumption) ?_
  case hy1b8 => (intro w hSw; (try dsimp only at hSw); simp only [List.getElem_toArray, List.getElem_cons_zero, List.getElem_cons_succ]; go_simp; try with_reducible rfl)
  try simp only [Act.put, List.getElem_toArray, List.getElem_cons_zero, List.getElem_cons_succ, List.setIfInBounds_toArray, List.set_cons_zero, List.set_cons_succ]
  refine wpAnyH_take (i := 2) (v := ?v2b9) rfl (by kernel_rfl) (by kernel_rfl) (by kernel_rfl) (fun _ _ _ h => h) (Or.inl ⟨by rfl, ?hy2b9⟩) (by assumption) ?_
  case hy2b9 => (intro w hSw; (try dsimp only at hSw); simp only [List.getElem_toArray, List.getElem_cons_zero, List.getElem_cons_succ]; go_simp; try with_reducible rfl)
  try simp only [Act.put, List.getElem_toArray, List.getElem_cons_zero, List.getElem_cons_succ, List.setIfInBounds_toArray, List.set_cons_zero, List.set_cons_succ]
  refine wpAnyH_take (i := 3) (v := ?v3b10) rfl (by kernel_rfl) (by kernel_rfl) (by kernel_rfl) (fun _ _ _ h => h) (Or.inl ⟨by rfl, ?hy3b10⟩) (by assumption) ?_
  case hy3b10 => (intro w hSw; (try dsimp only at hSw); simp only [List.getElem_toArray, List.getElem_cons_zero, List.getElem_cons_succ]; go_simp; try with_reducible rfl)
  try simp only [Act.put, List.getElem_toArray, List.getElem_cons_zero, List.getElem_cons_succ, List.setIfInBounds_toArray, List.set_cons_zero, List.set_cons_succ]
  refine wpAnyH_take (i := 4) (v := ?v4b11) rfl (by kernel_rfl) (by kernel_rfl) (by kernel_rfl) (fun _ _ _ h => h) (Or.inl ⟨by rfl, ?hy4b11⟩) (by assumption) ?_
  case hy4b11 => (intro w hSw; (try dsimp only at hSw); simp only [List.getElem_toArray, List.getElem_cons_zero, List.getElem_cons_succ]; go_simp; try with_reducible rfl)
  try simp only [Act.put, List.getElem_toArray, List.getElem_cons_zero, List.getElem_cons_succ, List.setIfInBounds_toArray, List.set_cons_zero, List.set_cons_succ]
  refine wpAnyH_take (i := 5) (v := _) rfl (by kernel_rfl) (by kernel_rfl) (by kernel_rfl) (fun _ _ _ h => h) (ld1_yield (by rfl) 3 _ rfl g 1 rfl 115 _ (fun w hS => G.out.later hS) (.int .i64 m.id) rfl _ Try.underlying3 rfl) (by assumption) ?_
  try simp only [Act.put, List.getElem_toArray, List.getElem_cons_zero, List.getElem_cons_succ, List.setIfInBounds_toArray, List.set_cons_zero, List.set_cons_succ]
  refine wpAnyH_take (i := 6) (v := ?v6b13) rfl (by kernel_rfl) (by kernel_rfl) (by kernel_rfl) (fun _ _ _ h => h) (Or.inl ⟨by rfl, ?hy6b13⟩) (by assumption) ?_
  case hy6b13 => (intro w hSw; (try dsimp only at hSw); simp only [List.getElem_toArray, List.getElem_cons_zero, List.getElem_cons_succ]; go_simp; try with_reducible rfl)
  try simp only [Act.put, List.getElem_toArray, List.getElem_cons_zero, List.getElem_cons_succ, List.setIfInBounds_toArray, List.set_cons_zero, List.set_cons_succ]
  refine wpAnyH_take (i := 7) (v := ?v7b14) rfl (by kernel_rfl) (by kernel_rfl) (by kernel_rfl) (fun _ _ _ h => h) (Or.inl ⟨by rfl, ?hy7b14⟩) (by assumption) ?_
  case hy7b14 => (intro w hSw; (try dsimp only at hSw); simp only [List.getElem_toArray, List.getElem_cons_zero, List.getElem_cons_succ]; go_simp; try with_reducible rfl)
  try simp only [Act.put, List.getElem_toArray, List.getElem_cons_zero, List.getElem_cons_succ, List.setIfInBounds_toArray, List.set_cons_zero, List.set_cons_succ]
  refine wpAnyH_take (i := 8) (v := ?v8b15) rfl (by kernel_rfl) (by kernel_rfl) (by kernel_rfl) (fun _ _ _ h => h) (Or.inl ⟨by rfl, ?hy8b15⟩) (by assumption) ?_
  case hy8b15 => (intro w hSw; (try dsimp only at hSw); simp only [List.getElem_toArray, List.getElem_cons_zero, List.getElem_cons_succ]; go_simp; try with_reducible rfl)
  try simp only [Act.put, List.getElem_toArray, List.getElem_cons_zero, List.getElem_cons_succ, List.setIfInBounds_toArray, List.set_cons_zero, List.set_cons_succ]
  refine wpAnyH_take (i := 9) (v := _) rfl (by kernel_rfl) (by kernel_rfl) (by kernel_rfl) (fun _ _ _ h => h) (ld1_yield (by rfl) 113 _ rfl g 0 rfl 115 _ (fun w hS => G.out.later hS) (.slice n.a n.n n.c) rfl _ Try.underlying113 rfl) (by assumption) ?_
  try simp only [Act.put, List.getElem_toArray, List.getElem_cons_zero, List.getElem_cons_succ, List.setIfInBounds_toArray, List.set_cons_zero, List.set_cons_succ]
  refine wpAnyH_take (i := 12) (v := ?v12b17) rfl (by kernel_rfl) (by kernel_rfl) (by kernel_rfl) (fun _ _ _ h => h) (Or.inl ⟨by rfl, ?hy12b17⟩) (by assumption) ?_
  case hy12b17 => (intro w hSw; (try dsimp only at hSw); simp only [List.getElem_toArray, List.getElem_cons_zero, List.getElem_cons_succ]; go_simp; try with_reducible rfl)
  try simp only [Act.put, List.getElem_toArray, List.getElem_cons_zero, List.getElem_cons_succ, List.setIfInBounds_toArray, List.set_cons_zero, List.set_cons_succ]
  refine wpAnyH_take (i := 13) (v := ?v13b18) rfl (by kernel_rfl) (by kernel_rfl) (by kernel_rfl) (fun _ _ _ h => h) (Or.inl ⟨by rfl, ?hy13b18⟩) (by assumption) ?_
  case hy13b18 => (intro w hSw; (try dsimp only at hSw); simp only [List.getElem_toArray, List.getElem_cons_zero, List.getElem_cons_succ]; go_simp; try with_reducible rfl)
  try simp only [Act.put, List.getElem_toArray, List.getElem_cons_zero, List.getElem_cons_succ, List.setIfInBounds_toArray, List.set_cons_zero, List.set_cons_succ]
  refine wpAnyH_take (i := 14) (v := ?v14b19) rfl (by kernel_rfl) (by kernel_rfl) (by kernel_rfl) (fun _ _ _ h => h) (Or.inl ⟨by rfl, ?hy14b19⟩) (by assumption) ?_
  case hy14b19 => (intro w hSw; (try dsimp only at hSw); simp only [List.getElem_toArray, List.getElem_cons_zero, List.getElem_cons_succ]; go_simp; try with_reducible rfl)
  try simp only [Act.put, List.getElem_toArray, List.getElem_cons_zero, List.getElem_cons_succ, List.setIfInBounds_toArray, List.set_cons_zero, List.set_cons_succ]
  refine wpAnyH_take (i := 15) (v := _) rfl (by kernel_rfl) (by kernel_rfl) (by kernel_rfl) (fun _ _ _ h => h) (ld1_yield (by rfl) 113 _ rfl g 0 rfl 115 _ (fun w hS => G.out.later hS) (.slice n.a n.n n.c) rfl _ Try.underlying113 rfl) (by assumption) ?_
  try simp only [Act.put, List.getElem_toArray, List.getElem_cons_zero, List.getElem_cons_succ, List.setIfInBounds_toArray, List.set_cons_zero, List.set_cons_succ]
  refine wpAnyH_ready (rs := [10]) (by kernel_rfl) (by simp) ?_
  refine AllReadyH.cons (i := 10) rfl (fun K hK => ?_) AllReadyH.nil
  rw [if_pos (by rfl)]
  simp only [List.getElem_toArray, List.getElem_cons_zero, List.getElem_cons_succ]
  go_simp
  refine (ARU.out _ (show Hid (RIt w7.drew n.v (m.spoke t).its) from IT.out.rit.stays c7)).mono ?_
  rintro e y1 ⟨rfl, d1⟩
  have c8 : Below w7.heap.size w7 y1 := bl_next c7 d1
  refine hK.out _ _ (c8) (fun hHeld => ?_)
  clear hK K
  try simp only [Act.put, List.getElem_toArray, List.getElem_cons_zero, List.getElem_cons_succ, List.setIfInBounds_toArray, List.set_cons_zero, List.set_cons_succ]
  clear d1
  refine wpAnyH_ready (rs := [11]) (by kernel_rfl) (by simp) ?_
  refine AllReadyH.cons (i := 11) rfl (fun K hK => ?_) AllReadyH.nil
  rw [if_pos (by rfl)]
  simp only [List.getElem_toArray, List.getElem_cons_zero, List.getElem_cons_succ]
  go_simp
  refine (MARK.out _ (show Hid (OwnI y1 0 sw.v t.ws) from OS.out.keep fun _ _ hk => c8.block _ hk)).mono ?_
  rintro e y2 ⟨z, rfl, oz, d2⟩
  have c9 : Below w7.heap.size w7 y2 := bl_next c8 d2
  refine hK.out _ _ (c9) (fun hHeld => ?_)
  clear hK K
  try simp only [Act.put, List.getElem_toArray, List.getElem_cons_zero, List.getElem_cons_succ, List.setIfInBounds_toArray, List.set_cons_zero, List.set_cons_succ]
  clear d2
  refine wpAnyH_ready (rs := [16]) (by kernel_rfl) (by simp) ?_
  refine AllReadyH.cons (i := 16) rfl (fun K hK => ?_) AllReadyH.nil
  rw [if_pos (by rfl)]
  simp only [List.getElem_toArray, List.getElem_cons_zero, List.getElem_cons_succ]
  go_simp
  refine (lacksT_any t.c t.r NQ ML MD z n t.ws (m.spoke t).its _ (show Hid (RI y2 z.v t.ws) from oz.ri) (show Hid (RIt y2 n.v (m.spoke t).its) from IT.out.rit.stays c9) hl hpl).mono ?_
  rintro e w8 ⟨x, rfl, ox, d3⟩
  have c10 : Below w7.heap.size w7 w8 := bl_next c9 d3
  refine hK.out _ _ (c10) (fun hHeld => ?_)
  clear hK K
  try simp only [Act.put, List.getElem_toArray, List.getElem_cons_zero, List.getElem_cons_succ, List.setIfInBounds_toArray, List.set_cons_zero, List.set_cons_succ]
  clear d3
  refine wpAnyH_take (i := 17) (v := ?v17b21) rfl (by kernel_rfl) (by kernel_rfl) (by kernel_rfl) (fun _ _ _ h => h) (Or.inl ⟨by rfl, ?hy17b21⟩) (by assumption) ?_
  case hy17b21 => (intro w hSw; (try dsimp only at hSw); simp only [List.getElem_toArray, List.getElem_cons_zero, List.getElem_cons_succ]; go_simp; try with_reducible rfl)
  try simp only [Act.put, List.getElem_toArray, List.getElem_cons_zero, List.getElem_cons_succ, List.setIfInBounds_toArray, List.set_cons_zero, List.set_cons_succ]
  refine wpAnyH_done (by kernel_rfl) ?_ _
  have TT : Hid (Bx w8 (w.heap.size + 1) 30 [.int .i64 t.c, .int .i64 t.r, .int .i64 t.q, .int .i64 t.a, .int .i64 t.b, .slice s.a s.n s.c]) := TT.out.later c10
  have RM : Hid (Bx w8 (w.heap.size + 2) 32 [.int .i64 0, .int .i64 0, .slice none 0 0, .slice none 0 0, .slice none 0 0, .slice none 0 0, .int .i64 0, .int .i64 0, .int .i64 0, .int .i64 0, .int .i64 0, .int .i64 0, .int .i64 0, .int .i64 0, .int .i64 0, .slice none 0 0]) := RM.out.later c10
  have RT : Hid (Bx w8 (w.heap.size + 3) 30 [.int .i64 0, .int .i64 0, .int .i64 0, .int .i64 0, .int .i64 0, .slice none 0 0]) := RT.out.later c10
  have BW : Hid (Below w.heap.size w w8) := bl_next BW.out c10
  have SD : Hid (SlI w8 0 (sd.v) (giveP t.ws m.its)) := SD.out.below c10
  have G : Hid (Bx w8 g 115 [.slice n.a n.n n.c, .int .i64 m.id, .int .i64 m.rid, .slice u.ms.a u.ms.n u.ms.c, .slice zSv.a zSv.n zSv.c, .slice lv.a lv.n lv.c, .slice tx.a tx.n tx.c, .int .i64 m.rd, .int .i64 t.a, .int .i64 LI, .int .i64 m.he, .int .i64 m.la.c, .int .i64 m.la.r, .int .i64 m.la.q, .int .i64 m.la.a, .int .i64 m.la.b, .slice u.ws.a u.ws.n u.ws.c]) := G.out.later c10
  have MS : Hid (OwnI w8 w.heap.size (u.ms.v) (m.ms)) := MS.out.keep fun _ _ hk => c10.block _ hk
  have IT : Hid (SlI w8 w.heap.size (n.v) ((m.spoke t).its)) := IT.out.below c10
  have LV : Hid (SlJ w8 w.heap.size (lv.v) ((m.spoke t).lv)) := LV.out.below c10
  have TX : Hid (SlX w8 w.heap.size (tx.v) ((m.spoke t).tx)) := TX.out.below c10
  have OS : Hid (OwnI w8 0 (sw.v) (t.ws)) := OS.out.keep fun _ _ hk => c10.block _ hk
  have OF : Hid (SlI w8 0 (fr.v) (freshL m t)) := OF.out.below c10
  have NX : Hid (Bx w8 gn 30 [.int .i64 t.c, .int .i64 t.r, .int .i64 NQ, .int .i64 NA, .int .i64 t.b, .slice sw.a sw.n sw.c]) := NX.out.later c10
  have OX : Hid (OwnI w8 0 (x.v) (lackP t.ws (m.spoke t).its NQ)) := ox.down (Nat.zero_le _)
  clear ox oz c7 c8 c9 c10 ARU MARK hHeld
  clear OS
  refine lastQ_of rfl rfl ?_
  refine wp_stB 30 _ _ rfl gn 0 rfl 30 _ NX.out [.int .i64 t.c, .int .i64 t.r, .int .i64 NQ, .int .i64 ML, .int .i64 MD, .slice x.a x.n x.c] rfl (by simp) Try.sizeT rfl [.int .i64 t.c, .int .i64 t.r, .int .i64 NQ, .int .i64 ML, .int .i64 MD, .slice x.a x.n x.c] rfl ?_
  intro w9 k9 t9
  have KK : KeepTy (fun X => X = 30) w8 w9 := KeepTy.ofTurn NX.out t9 rfl
  have TT : Hid (Bx w9 (w.heap.size + 1) 30 [.int .i64 t.c, .int .i64 t.r, .int .i64 t.q, .int .i64 t.a, .int .i64 t.b, .slice s.a s.n s.c]) := TT.out.turn t9 (by omega)
  have RM : Hid (Bx w9 (w.heap.size + 2) 32 [.int .i64 0, .int .i64 0, .slice none 0 0, .slice none 0 0, .slice none 0 0, .slice none 0 0, .int .i64 0, .int .i64 0, .int .i64 0, .int .i64 0, .int .i64 0, .int .i64 0, .int .i64 0, .int .i64 0, .int .i64 0, .slice none 0 0]) := RM.out.kt KK (by decide)
  have RT : Hid (Bx w9 (w.heap.size + 3) 30 [.int .i64 0, .int .i64 0, .int .i64 0, .int .i64 0, .int .i64 0, .slice none 0 0]) := RT.out.turn t9 (by omega)
  have BW : Hid (Below w.heap.size w w9) := BW.out.trans (t9.below (by omega))
  have SD : Hid (SlI w9 0 (sd.v) (giveP t.ws m.its)) := SD.out.kt KK (by decide)
  have G : Hid (Bx w9 g 115 [.slice n.a n.n n.c, .int .i64 m.id, .int .i64 m.rid, .slice u.ms.a u.ms.n u.ms.c, .slice zSv.a zSv.n zSv.c, .slice lv.a lv.n lv.c, .slice tx.a tx.n tx.c, .int .i64 m.rd, .int .i64 t.a, .int .i64 LI, .int .i64 m.he, .int .i64 m.la.c, .int .i64 m.la.r, .int .i64 m.la.q, .int .i64 m.la.a, .int .i64 m.la.b, .slice u.ws.a u.ws.n u.ws.c]) := G.out.kt KK (by decide)
  have MS : Hid (OwnI w9 w.heap.size (u.ms.v) (m.ms)) := MS.out.kt KK (by decide)
  have IT : Hid (SlI w9 w.heap.size (n.v) ((m.spoke t).its)) := IT.out.kt KK (by decide)
  have LV : Hid (SlJ w9 w.heap.size (lv.v) ((m.spoke t).lv)) := LV.out.kt KK (by decide)
  have TX : Hid (SlX w9 w.heap.size (tx.v) ((m.spoke t).tx)) := TX.out.kt KK (by decide)
  have OF : Hid (SlI w9 0 (fr.v) (freshL m t)) := OF.out.kt KK (by decide)
  have OX : Hid (OwnI w9 0 (x.v) (lackP t.ws (m.spoke t).its NQ)) := OX.out.kt KK (by decide)
  clear KK
  have NX : Hid (Bx w9 gn 30 [.int .i64 t.c, .int .i64 t.r, .int .i64 NQ, .int .i64 ML, .int .i64 MD, .slice x.a x.n x.c]) := k9
  clear k9 t9
  have hw1 : IntKind.i64.wrap (t.r + 1) = t.r + 1 := by rw [IntKind.wrap_i64]; omega
  have n1 := NX.out.cell 1
  go_wp2_with (first | (refine wpList_haltS 3 _ _ rfl ?_))
  refine Stp.go ?_
  refine wpList_st1 rfl 3 _ _ rfl gn 1 rfl 30 _ NX.out (.int .i64 (t.r + 1)) rfl (by simp) rfl Try.size3 [.int .i64 t.c, .int .i64 (t.r + 1), .int .i64 NQ, .int .i64 ML, .int .i64 MD, .slice x.a x.n x.c] rfl ?_
  intro w10 k10 t10
  clear n1
  have KK : KeepTy (fun X => X = 30) w9 w10 := KeepTy.ofTurn NX.out t10 rfl
  have TT : Hid (Bx w10 (w.heap.size + 1) 30 [.int .i64 t.c, .int .i64 t.r, .int .i64 t.q, .int .i64 t.a, .int .i64 t.b, .slice s.a s.n s.c]) := TT.out.turn t10 (by omega)
  have RM : Hid (Bx w10 (w.heap.size + 2) 32 [.int .i64 0, .int .i64 0, .slice none 0 0, .slice none 0 0, .slice none 0 0, .slice none 0 0, .int .i64 0, .int .i64 0, .int .i64 0, .int .i64 0, .int .i64 0, .int .i64 0, .int .i64 0, .int .i64 0, .int .i64 0, .slice none 0 0]) := RM.out.kt KK (by decide)
  have RT : Hid (Bx w10 (w.heap.size + 3) 30 [.int .i64 0, .int .i64 0, .int .i64 0, .int .i64 0, .int .i64 0, .slice none 0 0]) := RT.out.turn t10 (by omega)
  have BW : Hid (Below w.heap.size w w10) := BW.out.trans (t10.below (by omega))
  have SD : Hid (SlI w10 0 (sd.v) (giveP t.ws m.its)) := SD.out.kt KK (by decide)
  have G : Hid (Bx w10 g 115 [.slice n.a n.n n.c, .int .i64 m.id, .int .i64 m.rid, .slice u.ms.a u.ms.n u.ms.c, .slice zSv.a zSv.n zSv.c, .slice lv.a lv.n lv.c, .slice tx.a tx.n tx.c, .int .i64 m.rd, .int .i64 t.a, .int .i64 LI, .int .i64 m.he, .int .i64 m.la.c, .int .i64 m.la.r, .int .i64 m.la.q, .int .i64 m.la.a, .int .i64 m.la.b, .slice u.ws.a u.ws.n u.ws.c]) := G.out.kt KK (by decide)
  have MS : Hid (OwnI w10 w.heap.size (u.ms.v) (m.ms)) := MS.out.kt KK (by decide)
  have IT : Hid (SlI w10 w.heap.size (n.v) ((m.spoke t).its)) := IT.out.kt KK (by decide)
  have LV : Hid (SlJ w10 w.heap.size (lv.v) ((m.spoke t).lv)) := LV.out.kt KK (by decide)
  have TX : Hid (SlX w10 w.heap.size (tx.v) ((m.spoke t).tx)) := TX.out.kt KK (by decide)
  have OF : Hid (SlI w10 0 (fr.v) (freshL m t)) := OF.out.kt KK (by decide)
  have OX : Hid (OwnI w10 0 (x.v) (lackP t.ws (m.spoke t).its NQ)) := OX.out.kt KK (by decide)
  clear KK
  have NX : Hid (Bx w10 gn 30 [.int .i64 t.c, .int .i64 (t.r + 1), .int .i64 NQ, .int .i64 ML, .int .i64 MD, .slice x.a x.n x.c]) := k10
  clear k10 t10 hw1
  have a1 := TT.out.cell 1
  go_wp2_with (first | (refine wpList_haltS 3 _ _ rfl ?_))
  refine Stp.go ?_
  refine wpList_st1 rfl 3 _ _ rfl g 7 rfl 115 _ G.out (.int .i64 t.r) rfl (by simp) rfl Try.size3 [.slice n.a n.n n.c, .int .i64 m.id, .int .i64 m.rid, .slice u.ms.a u.ms.n u.ms.c, .slice zSv.a zSv.n zSv.c, .slice lv.a lv.n lv.c, .slice tx.a tx.n tx.c, .int .i64 t.r, .int .i64 t.a, .int .i64 LI, .int .i64 m.he, .int .i64 m.la.c, .int .i64 m.la.r, .int .i64 m.la.q, .int .i64 m.la.a, .int .i64 m.la.b, .slice u.ws.a u.ws.n u.ws.c] rfl ?_
  intro w11 k11 t11
  clear a1
  have KK : KeepTy (fun X => X = 115) w10 w11 := KeepTy.ofTurn G.out t11 rfl
  have TT : Hid (Bx w11 (w.heap.size + 1) 30 [.int .i64 t.c, .int .i64 t.r, .int .i64 t.q, .int .i64 t.a, .int .i64 t.b, .slice s.a s.n s.c]) := TT.out.kt KK (by decide)
  have RM : Hid (Bx w11 (w.heap.size + 2) 32 [.int .i64 0, .int .i64 0, .slice none 0 0, .slice none 0 0, .slice none 0 0, .slice none 0 0, .int .i64 0, .int .i64 0, .int .i64 0, .int .i64 0, .int .i64 0, .int .i64 0, .int .i64 0, .int .i64 0, .int .i64 0, .slice none 0 0]) := RM.out.kt KK (by decide)
  have RT : Hid (Bx w11 (w.heap.size + 3) 30 [.int .i64 0, .int .i64 0, .int .i64 0, .int .i64 0, .int .i64 0, .slice none 0 0]) := RT.out.kt KK (by decide)
  have BW : Hid (Below w.heap.size w w11) := BW.out.trans (t11.below (by omega))
  have SD : Hid (SlI w11 0 (sd.v) (giveP t.ws m.its)) := SD.out.kt KK (by decide)
  have MS : Hid (OwnI w11 w.heap.size (u.ms.v) (m.ms)) := MS.out.kt KK (by decide)
  have IT : Hid (SlI w11 w.heap.size (n.v) ((m.spoke t).its)) := IT.out.kt KK (by decide)
  have LV : Hid (SlJ w11 w.heap.size (lv.v) ((m.spoke t).lv)) := LV.out.kt KK (by decide)
  have TX : Hid (SlX w11 w.heap.size (tx.v) ((m.spoke t).tx)) := TX.out.kt KK (by decide)
  have OF : Hid (SlI w11 0 (fr.v) (freshL m t)) := OF.out.kt KK (by decide)
  have NX : Hid (Bx w11 gn 30 [.int .i64 t.c, .int .i64 (t.r + 1), .int .i64 NQ, .int .i64 ML, .int .i64 MD, .slice x.a x.n x.c]) := NX.out.kt KK (by decide)
  have OX : Hid (OwnI w11 0 (x.v) (lackP t.ws (m.spoke t).its NQ)) := OX.out.kt KK (by decide)
  clear KK
  have G : Hid (Bx w11 g 115 [.slice n.a n.n n.c, .int .i64 m.id, .int .i64 m.rid, .slice u.ms.a u.ms.n u.ms.c, .slice zSv.a zSv.n zSv.c, .slice lv.a lv.n lv.c, .slice tx.a tx.n tx.c, .int .i64 t.r, .int .i64 t.a, .int .i64 LI, .int .i64 m.he, .int .i64 m.la.c, .int .i64 m.la.r, .int .i64 m.la.q, .int .i64 m.la.a, .int .i64 m.la.b, .slice u.ws.a u.ws.n u.ws.c]) := k11
  clear k11 t11
  go_wp2_with (first | (refine wpList_ldG rfl 30 _ rfl gn 0 rfl 30 _ NX.out [.int .i64 t.c, .int .i64 (t.r + 1), .int .i64 NQ, .int .i64 ML, .int .i64 MD, .slice x.a x.n x.c] rfl _ Try.underlying30 rfl Try.sizeT ?_))
  refine (copyTok_s t.c (t.r + 1) NQ ML MD x (lackP t.ws (m.spoke t).its NQ) _ OX (Nat.le_trans (lackP_len _ _ _) (by decide))).mono ?_
  have zw11 : w.heap.size ≤ w11.heap.size := BW.out.size
  rintro e w12 ⟨y, rfl, oy, b12⟩
  have TT : Hid (Bx w12 (w.heap.size + 1) 30 [.int .i64 t.c, .int .i64 t.r, .int .i64 t.q, .int .i64 t.a, .int .i64 t.b, .slice s.a s.n s.c]) := TT.out.later b12
  have RM : Hid (Bx w12 (w.heap.size + 2) 32 [.int .i64 0, .int .i64 0, .slice none 0 0, .slice none 0 0, .slice none 0 0, .slice none 0 0, .int .i64 0, .int .i64 0, .int .i64 0, .int .i64 0, .int .i64 0, .int .i64 0, .int .i64 0, .int .i64 0, .int .i64 0, .slice none 0 0]) := RM.out.later b12
  have RT : Hid (Bx w12 (w.heap.size + 3) 30 [.int .i64 0, .int .i64 0, .int .i64 0, .int .i64 0, .int .i64 0, .slice none 0 0]) := RT.out.later b12
  have BW : Hid (Below w.heap.size w w12) := bl_next BW.out b12
  have SD : Hid (SlI w12 0 (sd.v) (giveP t.ws m.its)) := SD.out.below b12
  have G : Hid (Bx w12 g 115 [.slice n.a n.n n.c, .int .i64 m.id, .int .i64 m.rid, .slice u.ms.a u.ms.n u.ms.c, .slice zSv.a zSv.n zSv.c, .slice lv.a lv.n lv.c, .slice tx.a tx.n tx.c, .int .i64 t.r, .int .i64 t.a, .int .i64 LI, .int .i64 m.he, .int .i64 m.la.c, .int .i64 m.la.r, .int .i64 m.la.q, .int .i64 m.la.a, .int .i64 m.la.b, .slice u.ws.a u.ws.n u.ws.c]) := G.out.later b12
  have MS : Hid (OwnI w12 w.heap.size (u.ms.v) (m.ms)) := MS.out.keep fun _ _ hk => b12.block _ hk
  have IT : Hid (SlI w12 w.heap.size (n.v) ((m.spoke t).its)) := IT.out.below b12
  have LV : Hid (SlJ w12 w.heap.size (lv.v) ((m.spoke t).lv)) := LV.out.below b12
  have TX : Hid (SlX w12 w.heap.size (tx.v) ((m.spoke t).tx)) := TX.out.below b12
  have OF : Hid (SlI w12 0 (fr.v) (freshL m t)) := OF.out.below b12
  have NX : Hid (Bx w12 gn 30 [.int .i64 t.c, .int .i64 (t.r + 1), .int .i64 NQ, .int .i64 ML, .int .i64 MD, .slice x.a x.n x.c]) := NX.out.later b12
  have OX : Hid (OwnI w12 0 (x.v) (lackP t.ws (m.spoke t).its NQ)) := OX.out.keep fun _ _ hk => b12.block _ hk
  have OY : Hid (OwnI w12 w.heap.size (y.v) (lackP t.ws (m.spoke t).its NQ)) := oy.down zw11
  clear oy b12
  go_wp2_with (first | (refine wpList_haltS 30 _ _ rfl ?_))
  refine Stp.go ?_
  refine wpList_stB rfl 30 _ _ rfl g 11 rfl 115 _ G.out [.int .i64 t.c, .int .i64 (t.r + 1), .int .i64 NQ, .int .i64 ML, .int .i64 MD, .slice y.a y.n y.c] rfl (by simp) Try.sizeT rfl [.slice n.a n.n n.c, .int .i64 m.id, .int .i64 m.rid, .slice u.ms.a u.ms.n u.ms.c, .slice zSv.a zSv.n zSv.c, .slice lv.a lv.n lv.c, .slice tx.a tx.n tx.c, .int .i64 t.r, .int .i64 t.a, .int .i64 LI, .int .i64 m.he, .int .i64 t.c, .int .i64 (t.r + 1), .int .i64 NQ, .int .i64 ML, .int .i64 MD, .slice y.a y.n y.c] rfl ?_
  intro w13 k13 t13
  have KK : KeepTy (fun X => X = 115) w12 w13 := KeepTy.ofTurn G.out t13 rfl
  have TT : Hid (Bx w13 (w.heap.size + 1) 30 [.int .i64 t.c, .int .i64 t.r, .int .i64 t.q, .int .i64 t.a, .int .i64 t.b, .slice s.a s.n s.c]) := TT.out.kt KK (by decide)
  have RM : Hid (Bx w13 (w.heap.size + 2) 32 [.int .i64 0, .int .i64 0, .slice none 0 0, .slice none 0 0, .slice none 0 0, .slice none 0 0, .int .i64 0, .int .i64 0, .int .i64 0, .int .i64 0, .int .i64 0, .int .i64 0, .int .i64 0, .int .i64 0, .int .i64 0, .slice none 0 0]) := RM.out.kt KK (by decide)
  have RT : Hid (Bx w13 (w.heap.size + 3) 30 [.int .i64 0, .int .i64 0, .int .i64 0, .int .i64 0, .int .i64 0, .slice none 0 0]) := RT.out.kt KK (by decide)
  have BW : Hid (Below w.heap.size w w13) := BW.out.trans (t13.below (by omega))
  have SD : Hid (SlI w13 0 (sd.v) (giveP t.ws m.its)) := SD.out.kt KK (by decide)
  have MS : Hid (OwnI w13 w.heap.size (u.ms.v) (m.ms)) := MS.out.kt KK (by decide)
  have IT : Hid (SlI w13 w.heap.size (n.v) ((m.spoke t).its)) := IT.out.kt KK (by decide)
  have LV : Hid (SlJ w13 w.heap.size (lv.v) ((m.spoke t).lv)) := LV.out.kt KK (by decide)
  have TX : Hid (SlX w13 w.heap.size (tx.v) ((m.spoke t).tx)) := TX.out.kt KK (by decide)
  have OF : Hid (SlI w13 0 (fr.v) (freshL m t)) := OF.out.kt KK (by decide)
  have NX : Hid (Bx w13 gn 30 [.int .i64 t.c, .int .i64 (t.r + 1), .int .i64 NQ, .int .i64 ML, .int .i64 MD, .slice x.a x.n x.c]) := NX.out.kt KK (by decide)
  have OX : Hid (OwnI w13 0 (x.v) (lackP t.ws (m.spoke t).its NQ)) := OX.out.kt KK (by decide)
  have OY : Hid (OwnI w13 w.heap.size (y.v) (lackP t.ws (m.spoke t).its NQ)) := OY.out.kt KK (by decide)
  clear KK
  have G : Hid (Bx w13 g 115 [.slice n.a n.n n.c, .int .i64 m.id, .int .i64 m.rid, .slice u.ms.a u.ms.n u.ms.c, .slice zSv.a zSv.n zSv.c, .slice lv.a lv.n lv.c, .slice tx.a tx.n tx.c, .int .i64 t.r, .int .i64 t.a, .int .i64 LI, .int .i64 m.he, .int .i64 t.c, .int .i64 (t.r + 1), .int .i64 NQ, .int .i64 ML, .int .i64 MD, .slice y.a y.n y.c]) := k13
  clear k13 t13
  go_wp2_with fail
  have c13 : Below w13.heap.size w13 w13.drew := (Below.refl _ _).drew
  refine wp_region_held_drew (S := fun w' => Bx w' gn 30 [.int .i64 t.c, .int .i64 (t.r + 1), .int .i64 NQ, .int .i64 ML, .int .i64 MD, .slice x.a x.n x.c]) (by kernel_rfl) (NX.out.later c13) (fun hHeld => ?_)
  refine wpAnyH_take (i := 0) (v := ?v0b22) rfl (by kernel_rfl) (by kernel_rfl) (by kernel_rfl) (fun _ _ _ h => h) (Or.inl ⟨by rfl, ?hy0b22⟩) (by assumption) ?_
  case hy0b22 => (intro w hSw; (try dsimp only at hSw); simp only [List.getElem_toArray, List.getElem_cons_zero, List.getElem_cons_succ]; go_simp; try with_reducible rfl)
  try simp only [Act.put, List.getElem_toArray, List.getElem_cons_zero, List.getElem_cons_succ, List.setIfInBounds_toArray, List.set_cons_zero, List.set_cons_succ]
  refine wpAnyH_take (i := 2) (v := ?v2b23) rfl (by kernel_rfl) (by kernel_rfl) (by kernel_rfl) (fun _ _ _ h => h) (Or.inl ⟨by rfl, ?hy2b23⟩) (by assumption) ?_
  case hy2b23 => (intro w hSw; (try dsimp only at hSw); simp only [List.getElem_toArray, List.getElem_cons_zero, List.getElem_cons_succ]; go_simp; try with_reducible rfl)
  try simp only [Act.put, List.getElem_toArray, List.getElem_cons_zero, List.getElem_cons_succ, List.setIfInBounds_toArray, List.set_cons_zero, List.set_cons_succ]
  refine wpAnyH_take (i := 3) (v := ?v3b24) rfl (by kernel_rfl) (by kernel_rfl) (by kernel_rfl) (fun _ _ _ h => h) (Or.inl ⟨by rfl, ?hy3b24⟩) (by assumption) ?_
  case hy3b24 => (intro w hSw; (try dsimp only at hSw); simp only [List.getElem_toArray, List.getElem_cons_zero, List.getElem_cons_succ]; go_simp; try with_reducible rfl)
  try simp only [Act.put, List.getElem_toArray, List.getElem_cons_zero, List.getElem_cons_succ, List.setIfInBounds_toArray, List.set_cons_zero, List.set_cons_succ]
  refine wpAnyH_take (i := 5) (v := _) rfl (by kernel_rfl) (by kernel_rfl) (by kernel_rfl) (fun _ _ _ h => h) (ld_yield (by rfl) 30 _ rfl gn 0 rfl 30 _ (fun w hS => hS) [.int .i64 t.c, .int .i64 (t.r + 1), .int .i64 NQ, .int .i64 ML, .int .i64 MD, .slice x.a x.n x.c] rfl _ Try.underlying30 rfl Try.sizeT) (by assumption) ?_
  try simp only [Act.put, List.getElem_toArray, List.getElem_cons_zero, List.getElem_cons_succ, List.setIfInBounds_toArray, List.set_cons_zero, List.set_cons_succ]
  refine wpAnyH_ready (rs := [1]) (by kernel_rfl) (by simp) ?_
  refine AllReadyH.cons (i := 1) rfl (fun K hK => ?_) AllReadyH.nil
  rw [if_pos (by rfl)]
  simp only [List.getElem_toArray, List.getElem_cons_zero, List.getElem_cons_succ]
  go_simp
  have TT : Hid (Bx w13.drew (w.heap.size + 1) 30 [.int .i64 t.c, .int .i64 t.r, .int .i64 t.q, .int .i64 t.a, .int .i64 t.b, .slice s.a s.n s.c]) := TT.out.later c13
  have RM : Hid (Bx w13.drew (w.heap.size + 2) 32 [.int .i64 0, .int .i64 0, .slice none 0 0, .slice none 0 0, .slice none 0 0, .slice none 0 0, .int .i64 0, .int .i64 0, .int .i64 0, .int .i64 0, .int .i64 0, .int .i64 0, .int .i64 0, .int .i64 0, .int .i64 0, .slice none 0 0]) := RM.out.later c13
  have RT : Hid (Bx w13.drew (w.heap.size + 3) 30 [.int .i64 0, .int .i64 0, .int .i64 0, .int .i64 0, .int .i64 0, .slice none 0 0]) := RT.out.later c13
  have BW : Hid (Below w.heap.size w w13.drew) := bl_next BW.out c13
  have SD : Hid (SlI w13.drew 0 (sd.v) (giveP t.ws m.its)) := SD.out.below c13
  have G : Hid (Bx w13.drew g 115 [.slice n.a n.n n.c, .int .i64 m.id, .int .i64 m.rid, .slice u.ms.a u.ms.n u.ms.c, .slice zSv.a zSv.n zSv.c, .slice lv.a lv.n lv.c, .slice tx.a tx.n tx.c, .int .i64 t.r, .int .i64 t.a, .int .i64 LI, .int .i64 m.he, .int .i64 t.c, .int .i64 (t.r + 1), .int .i64 NQ, .int .i64 ML, .int .i64 MD, .slice y.a y.n y.c]) := G.out.later c13
  have MS : Hid (OwnI w13.drew w.heap.size (u.ms.v) (m.ms)) := MS.out.keep fun _ _ hk => c13.block _ hk
  have IT : Hid (SlI w13.drew w.heap.size (n.v) ((m.spoke t).its)) := IT.out.below c13
  have LV : Hid (SlJ w13.drew w.heap.size (lv.v) ((m.spoke t).lv)) := LV.out.below c13
  have TX : Hid (SlX w13.drew w.heap.size (tx.v) ((m.spoke t).tx)) := TX.out.below c13
  have OF : Hid (SlI w13.drew 0 (fr.v) (freshL m t)) := OF.out.below c13
  have NX : Hid (Bx w13.drew gn 30 [.int .i64 t.c, .int .i64 (t.r + 1), .int .i64 NQ, .int .i64 ML, .int .i64 MD, .slice x.a x.n x.c]) := NX.out.later c13
  have OX : Hid (OwnI w13.drew 0 (x.v) (lackP t.ws (m.spoke t).its NQ)) := OX.out.keep fun _ _ hk => c13.block _ hk
  have OY : Hid (OwnI w13.drew w.heap.size (y.v) (lackP t.ws (m.spoke t).its NQ)) := OY.out.keep fun _ _ hk => c13.block _ hk
  refine (mate_any (⟨m.id, m.rid, m.ms, (m.spoke t).its, (m.spoke t).lv, (m.spoke t).tx, t.r, t.a, LI, m.he, ⟨t.c, t.r + 1, NQ, ML, MD, lackP t.ws (m.spoke t).its NQ⟩⟩ : Mt) (⟨u.ms, n, lv, tx, y⟩ : Mv) zSv g _ (show Hid (MbB w13.drew g (⟨m.id, m.rid, m.ms, (m.spoke t).its, (m.spoke t).lv, (m.spoke t).tx, t.r, t.a, LI, m.he, ⟨t.c, t.r + 1, NQ, ML, MD, lackP t.ws (m.spoke t).its NQ⟩⟩ : Mt) (⟨u.ms, n, lv, tx, y⟩ : Mv) zSv) from G.out)).mono ?_
  rintro e w14 ⟨rfl, g14, k14⟩
  have KK : KeepTy (fun X => X = 115) w13.drew w14 := KeepTy.ofKeepBut G.out k14 rfl
  have TT : Hid (Bx w14 (w.heap.size + 1) 30 [.int .i64 t.c, .int .i64 t.r, .int .i64 t.q, .int .i64 t.a, .int .i64 t.b, .slice s.a s.n s.c]) := TT.out.kt KK (by decide)
  have RM : Hid (Bx w14 (w.heap.size + 2) 32 [.int .i64 0, .int .i64 0, .slice none 0 0, .slice none 0 0, .slice none 0 0, .slice none 0 0, .int .i64 0, .int .i64 0, .int .i64 0, .int .i64 0, .int .i64 0, .int .i64 0, .int .i64 0, .int .i64 0, .int .i64 0, .slice none 0 0]) := RM.out.kt KK (by decide)
  have RT : Hid (Bx w14 (w.heap.size + 3) 30 [.int .i64 0, .int .i64 0, .int .i64 0, .int .i64 0, .int .i64 0, .slice none 0 0]) := RT.out.kt KK (by decide)
  have BW : Hid (Below w.heap.size w w14) := BW.out.trans (keep_below k14 (by omega) BW.out.size)
  have SD : Hid (SlI w14 0 (sd.v) (giveP t.ws m.its)) := SD.out.kt KK (by decide)
  have MS : Hid (OwnI w14 w.heap.size (u.ms.v) (m.ms)) := MS.out.kt KK (by decide)
  have IT : Hid (SlI w14 w.heap.size (n.v) ((m.spoke t).its)) := IT.out.kt KK (by decide)
  have LV : Hid (SlJ w14 w.heap.size (lv.v) ((m.spoke t).lv)) := LV.out.kt KK (by decide)
  have TX : Hid (SlX w14 w.heap.size (tx.v) ((m.spoke t).tx)) := TX.out.kt KK (by decide)
  have OF : Hid (SlI w14 0 (fr.v) (freshL m t)) := OF.out.kt KK (by decide)
  have NX : Hid (Bx w14 gn 30 [.int .i64 t.c, .int .i64 (t.r + 1), .int .i64 NQ, .int .i64 ML, .int .i64 MD, .slice x.a x.n x.c]) := NX.out.kt KK (by decide)
  have OX : Hid (OwnI w14 0 (x.v) (lackP t.ws (m.spoke t).its NQ)) := OX.out.kt KK (by decide)
  have OY : Hid (OwnI w14 w.heap.size (y.v) (lackP t.ws (m.spoke t).its NQ)) := OY.out.kt KK (by decide)
  clear KK
  refine hK.out _ _ (NX.out) (fun hHeld => ?_)
  clear hK K
  try simp only [Act.put, List.getElem_toArray, List.getElem_cons_zero, List.getElem_cons_succ, List.setIfInBounds_toArray, List.set_cons_zero, List.set_cons_succ]
  clear g14 k14 c13
  refine wpAnyH_ready (rs := [4]) (by kernel_rfl) (by simp) ?_
  refine AllReadyH.cons (i := 4) rfl (fun K hK => ?_) AllReadyH.nil
  rw [if_pos (by rfl)]
  simp only [List.getElem_toArray, List.getElem_cons_zero, List.getElem_cons_succ]
  have hsf : (giveP t.ws m.its).length + (freshL m t).length ≤ 2097152 := by have := numL_len t.c t.r t.q t.a t.b t.ws m.id m.lv m.tx; unfold freshL; omega
  refine wp_catIt _ _ 27 rfl Try.underlying27 0 (.slice sd.a sd.n sd.c) (giveP t.ws m.its) (by rfl) SD.out (.slice fr.a fr.n fr.c) (freshL m t) (by rfl) OF.out.rit hsf (Nat.zero_le _) ?_
  intro vv w15 ov gv _
  obtain ⟨fs, rfl⟩ := SlI.sv ov
  have KK : KeepTy (fun X => X = 38) w14 w15 := KeepTy.ofGrown gv (fun k hk => by obtain ⟨cs, hc⟩ := own_is_it SD.out hk; exact ⟨cs, _, _, hc, rfl⟩)
  have IT : Hid (SlI w15 w.heap.size (n.v) ((m.spoke t).its)) := IT.out.keep fun k hk hlt => gv.block k hlt (fun e => APN.out k e.symm hk)
  have TT : Hid (Bx w15 (w.heap.size + 1) 30 [.int .i64 t.c, .int .i64 t.r, .int .i64 t.q, .int .i64 t.a, .int .i64 t.b, .slice s.a s.n s.c]) := TT.out.kt KK (by decide)
  have RM : Hid (Bx w15 (w.heap.size + 2) 32 [.int .i64 0, .int .i64 0, .slice none 0 0, .slice none 0 0, .slice none 0 0, .slice none 0 0, .int .i64 0, .int .i64 0, .int .i64 0, .int .i64 0, .int .i64 0, .int .i64 0, .int .i64 0, .int .i64 0, .int .i64 0, .slice none 0 0]) := RM.out.kt KK (by decide)
  have RT : Hid (Bx w15 (w.heap.size + 3) 30 [.int .i64 0, .int .i64 0, .int .i64 0, .int .i64 0, .int .i64 0, .slice none 0 0]) := RT.out.kt KK (by decide)
  have BW : Hid (Below w.heap.size w w15) := BW.out.trans (below_grown_new gv (fun k hk => by have := zsdw.out k hk; omega) BW.out.size)
  have MS : Hid (OwnI w15 w.heap.size (u.ms.v) (m.ms)) := MS.out.kt KK (by decide)
  have LV : Hid (SlJ w15 w.heap.size (lv.v) ((m.spoke t).lv)) := LV.out.kt KK (by decide)
  have TX : Hid (SlX w15 w.heap.size (tx.v) ((m.spoke t).tx)) := TX.out.kt KK (by decide)
  have NX : Hid (Bx w15 gn 30 [.int .i64 t.c, .int .i64 (t.r + 1), .int .i64 NQ, .int .i64 ML, .int .i64 MD, .slice x.a x.n x.c]) := NX.out.kt KK (by decide)
  have OX : Hid (OwnI w15 0 (x.v) (lackP t.ws (m.spoke t).its NQ)) := OX.out.kt KK (by decide)
  have OY : Hid (OwnI w15 w.heap.size (y.v) (lackP t.ws (m.spoke t).its NQ)) := OY.out.kt KK (by decide)
  have FSL : Hid (SlI w15 0 (fs.v) (giveP t.ws m.its ++ freshL m t)) := ov
  refine hK.out _ _ (NX.out) (fun hHeld => ?_)
  clear hK K
  try simp only [Act.put, List.getElem_toArray, List.getElem_cons_zero, List.getElem_cons_succ, List.setIfInBounds_toArray, List.set_cons_zero, List.set_cons_succ]
  clear ov gv KK
  refine wpAnyH_ready (rs := [6]) (by kernel_rfl) (by simp) ?_
  refine AllReadyH.cons (i := 6) rfl (fun K hK => ?_) AllReadyH.nil
  rw [if_pos (by rfl)]
  simp only [List.getElem_toArray, List.getElem_cons_zero, List.getElem_cons_succ]
  refine wp_stB 32 _ _ rfl (w.heap.size + 2) 0 (by rfl) 32 _ RM.out [.int .i64 m.id, .int .i64 m.rid, .slice u.ms.a u.ms.n u.ms.c, .slice n.a n.n n.c, .slice lv.a lv.n lv.c, .slice tx.a tx.n tx.c, .int .i64 t.r, .int .i64 t.a, .int .i64 LI, .int .i64 m.he, .int .i64 t.c, .int .i64 (t.r + 1), .int .i64 NQ, .int .i64 ML, .int .i64 MD, .slice y.a y.n y.c] (by rfl) (by simp) Try.sizeM rfl [.int .i64 m.id, .int .i64 m.rid, .slice u.ms.a u.ms.n u.ms.c, .slice n.a n.n n.c, .slice lv.a lv.n lv.c, .slice tx.a tx.n tx.c, .int .i64 t.r, .int .i64 t.a, .int .i64 LI, .int .i64 m.he, .int .i64 t.c, .int .i64 (t.r + 1), .int .i64 NQ, .int .i64 ML, .int .i64 MD, .slice y.a y.n y.c] rfl ?_
  intro w16 k16 t16
  have KK : KeepTy (fun X => X = 32) w15 w16 := KeepTy.ofTurn RM.out t16 rfl
  have TT : Hid (Bx w16 (w.heap.size + 1) 30 [.int .i64 t.c, .int .i64 t.r, .int .i64 t.q, .int .i64 t.a, .int .i64 t.b, .slice s.a s.n s.c]) := TT.out.kt KK (by decide)
  have RT : Hid (Bx w16 (w.heap.size + 3) 30 [.int .i64 0, .int .i64 0, .int .i64 0, .int .i64 0, .int .i64 0, .slice none 0 0]) := RT.out.kt KK (by decide)
  have BW : Hid (Below w.heap.size w w16) := BW.out.trans (t16.below (by omega))
  have MS : Hid (OwnI w16 w.heap.size (u.ms.v) (m.ms)) := MS.out.kt KK (by decide)
  have IT : Hid (SlI w16 w.heap.size (n.v) ((m.spoke t).its)) := IT.out.kt KK (by decide)
  have LV : Hid (SlJ w16 w.heap.size (lv.v) ((m.spoke t).lv)) := LV.out.kt KK (by decide)
  have TX : Hid (SlX w16 w.heap.size (tx.v) ((m.spoke t).tx)) := TX.out.kt KK (by decide)
  have NX : Hid (Bx w16 gn 30 [.int .i64 t.c, .int .i64 (t.r + 1), .int .i64 NQ, .int .i64 ML, .int .i64 MD, .slice x.a x.n x.c]) := NX.out.kt KK (by decide)
  have OX : Hid (OwnI w16 0 (x.v) (lackP t.ws (m.spoke t).its NQ)) := OX.out.kt KK (by decide)
  have OY : Hid (OwnI w16 w.heap.size (y.v) (lackP t.ws (m.spoke t).its NQ)) := OY.out.kt KK (by decide)
  have FSL : Hid (SlI w16 0 (fs.v) (giveP t.ws m.its ++ freshL m t)) := FSL.out.kt KK (by decide)
  clear KK
  have RM : Hid (Bx w16 (w.heap.size + 2) 32 [.int .i64 m.id, .int .i64 m.rid, .slice u.ms.a u.ms.n u.ms.c, .slice n.a n.n n.c, .slice lv.a lv.n lv.c, .slice tx.a tx.n tx.c, .int .i64 t.r, .int .i64 t.a, .int .i64 LI, .int .i64 m.he, .int .i64 t.c, .int .i64 (t.r + 1), .int .i64 NQ, .int .i64 ML, .int .i64 MD, .slice y.a y.n y.c]) := k16
  refine hK.out _ _ (NX.out) (fun hHeld => ?_)
  clear hK K
  try simp only [Act.put, List.getElem_toArray, List.getElem_cons_zero, List.getElem_cons_succ, List.setIfInBounds_toArray, List.set_cons_zero, List.set_cons_succ]
  clear k16 t16
  refine wpAnyH_take (i := 7) (v := ?v7b26) rfl (by kernel_rfl) (by kernel_rfl) (by kernel_rfl) (fun _ _ _ h => h) (Or.inl ⟨by rfl, ?hy7b26⟩) (by assumption) ?_
  case hy7b26 => (intro w hSw; (try dsimp only at hSw); simp only [List.getElem_toArray, List.getElem_cons_zero, List.getElem_cons_succ]; go_simp; try with_reducible rfl)
  try simp only [Act.put, List.getElem_toArray, List.getElem_cons_zero, List.getElem_cons_succ, List.setIfInBounds_toArray, List.set_cons_zero, List.set_cons_succ]
  refine wpAnyH_ready (rs := [8]) (by kernel_rfl) (by simp) ?_
  refine AllReadyH.cons (i := 8) rfl (fun K hK => ?_) AllReadyH.nil
  rw [if_pos (by rfl)]
  simp only [List.getElem_toArray, List.getElem_cons_zero, List.getElem_cons_succ]
  refine wp_stB 30 _ _ rfl (w.heap.size + 3) 0 (by rfl) 30 _ RT.out [.int .i64 t.c, .int .i64 (t.r + 1), .int .i64 NQ, .int .i64 ML, .int .i64 MD, .slice x.a x.n x.c] (by rfl) (by simp) Try.sizeT rfl [.int .i64 t.c, .int .i64 (t.r + 1), .int .i64 NQ, .int .i64 ML, .int .i64 MD, .slice x.a x.n x.c] rfl ?_
  intro w17 k17 t17
  have KK : KeepTy (fun X => X = 30) w16 w17 := KeepTy.ofTurn RT.out t17 rfl
  have TT : Hid (Bx w17 (w.heap.size + 1) 30 [.int .i64 t.c, .int .i64 t.r, .int .i64 t.q, .int .i64 t.a, .int .i64 t.b, .slice s.a s.n s.c]) := TT.out.turn t17 (by omega)
  have RM : Hid (Bx w17 (w.heap.size + 2) 32 [.int .i64 m.id, .int .i64 m.rid, .slice u.ms.a u.ms.n u.ms.c, .slice n.a n.n n.c, .slice lv.a lv.n lv.c, .slice tx.a tx.n tx.c, .int .i64 t.r, .int .i64 t.a, .int .i64 LI, .int .i64 m.he, .int .i64 t.c, .int .i64 (t.r + 1), .int .i64 NQ, .int .i64 ML, .int .i64 MD, .slice y.a y.n y.c]) := RM.out.kt KK (by decide)
  have BW : Hid (Below w.heap.size w w17) := BW.out.trans (t17.below (by omega))
  have MS : Hid (OwnI w17 w.heap.size (u.ms.v) (m.ms)) := MS.out.kt KK (by decide)
  have IT : Hid (SlI w17 w.heap.size (n.v) ((m.spoke t).its)) := IT.out.kt KK (by decide)
  have LV : Hid (SlJ w17 w.heap.size (lv.v) ((m.spoke t).lv)) := LV.out.kt KK (by decide)
  have TX : Hid (SlX w17 w.heap.size (tx.v) ((m.spoke t).tx)) := TX.out.kt KK (by decide)
  have NX : Hid (Bx w17 gn 30 [.int .i64 t.c, .int .i64 (t.r + 1), .int .i64 NQ, .int .i64 ML, .int .i64 MD, .slice x.a x.n x.c]) := NX.out.turn t17 (by omega)
  have OX : Hid (OwnI w17 0 (x.v) (lackP t.ws (m.spoke t).its NQ)) := OX.out.kt KK (by decide)
  have OY : Hid (OwnI w17 w.heap.size (y.v) (lackP t.ws (m.spoke t).its NQ)) := OY.out.kt KK (by decide)
  have FSL : Hid (SlI w17 0 (fs.v) (giveP t.ws m.its ++ freshL m t)) := FSL.out.kt KK (by decide)
  clear KK
  have RT : Hid (Bx w17 (w.heap.size + 3) 30 [.int .i64 t.c, .int .i64 (t.r + 1), .int .i64 NQ, .int .i64 ML, .int .i64 MD, .slice x.a x.n x.c]) := k17
  refine hK.out _ _ (NX.out) (fun hHeld => ?_)
  clear hK K
  try simp only [Act.put, List.getElem_toArray, List.getElem_cons_zero, List.getElem_cons_succ, List.setIfInBounds_toArray, List.set_cons_zero, List.set_cons_succ]
  clear k17 t17
  refine wpAnyH_take (i := 9) (v := ?v9b27) rfl (by kernel_rfl) (by kernel_rfl) (by kernel_rfl) (fun _ _ _ h => h) (Or.inl ⟨by rfl, ?hy9b27⟩) (by assumption) ?_
  case hy9b27 => (intro w hSw; (try dsimp only at hSw); simp only [List.getElem_toArray, List.getElem_cons_zero, List.getElem_cons_succ]; go_simp; try with_reducible rfl)
  try simp only [Act.put, List.getElem_toArray, List.getElem_cons_zero, List.getElem_cons_succ, List.setIfInBounds_toArray, List.set_cons_zero, List.set_cons_succ]
  refine wpAnyH_done (by kernel_rfl) ?_ _
  go_wp2_with fail
  refine bodyPost_ret (results_btbt Try.results20 (w.heap.size + 2) 32 [.int .i64 m.id, .int .i64 m.rid, .slice u.ms.a u.ms.n u.ms.c, .slice n.a n.n n.c, .slice lv.a lv.n lv.c, .slice tx.a tx.n tx.c, .int .i64 t.r, .int .i64 t.a, .int .i64 LI, .int .i64 m.he, .int .i64 t.c, .int .i64 (t.r + 1), .int .i64 NQ, .int .i64 ML, .int .i64 MD, .slice y.a y.n y.c] _ rfl RM.out Try.underlying32 rfl Try.sizeM (w.heap.size + 3) 30 [.int .i64 t.c, .int .i64 (t.r + 1), .int .i64 NQ, .int .i64 ML, .int .i64 MD, .slice x.a x.n x.c] _ rfl RT.out Try.underlying30 rfl Try.sizeT) rfl ?_
  have hNX : nxTok m t = ⟨t.c, t.r + 1, NQ, ML, MD, lackP t.ws (m.spoke t).its NQ⟩ := by unfold nxTok; rw [← HNQ.out, ← HNA.out, ← HAR.out, ← HML.out, ← HMD.out]
  have hHE : m.held t = ⟨m.id, m.rid, m.ms, (m.spoke t).its, (m.spoke t).lv, (m.spoke t).tx, t.r, t.a, LI, m.he, ⟨t.c, t.r + 1, NQ, ML, MD, lackP t.ws (m.spoke t).its NQ⟩⟩ := by unfold Mt.held; rw [hNX, ← HLI.out]
  refine ⟨⟨u.ms, n, lv, tx, y⟩, fs, x, ?_, ?_, ?_, ?_, BW.out⟩
  · rw [hHE, hNX]; rfl
  · rw [hHE]; exact ⟨MS.out, IT.out, LV.out, TX.out, OY.out⟩
  · exact FSL.out
  · rw [hNX]; exact OX.out
end Go.Proofs.Ythdjkkiegecgnaa


/- What one member that holds the token alone says, in plain words. -/
namespace Go.Proofs.Ythdjkkiegecgnaa
open Go.RowKit Pl
set_option linter.unusedVariables false

/-- texts as items, numbered from q on. -/
def itF (d : Int) : Int → List ByteArray → List It
  | _, [] => []
  | q, x :: xs => (q + 1, d, 1, x) :: itF d (q + 1) xs
theorem itF_len (d : Int) : ∀ (xs : List ByteArray) (q : Int), (itF d q xs).length = xs.length
  | [], _ => rfl
  | _ :: xs, q => by rw [itF, List.length_cons, List.length_cons, itF_len d xs]
theorem itF_append (d : Int) : ∀ (xs ys : List ByteArray) (q : Int), itF d q (xs ++ ys) = itF d q xs ++ itF d (q + (xs.length : Int)) ys
  | [], ys, q => by simp [itF]
  | x :: xs, ys, q => by
    rw [List.cons_append, itF, itF, itF_append d xs ys, List.cons_append, List.length_cons]
    congr 2
    congr 1
    omega
theorem itF_mem (d : Int) : ∀ (xs : List ByteArray) (q : Int) (y : It), y ∈ itF d q xs → q < y.1 ∧ y.1 ≤ q + (xs.length : Int) ∧ y.2.1 = d ∧ y.2.2.1 = 1 ∧ y.2.2.2 ∈ xs
  | [], q, y, h => by cases h
  | x :: xs, q, y, h => by
    rw [itF] at h
    rcases List.mem_cons.1 h with rfl | h
    · exact ⟨by show q < q + 1; omega, by show q + 1 ≤ _; rw [List.length_cons]; omega, rfl, rfl, List.mem_cons_self ..⟩
    · obtain ⟨h1, h2, h3, h4, h5⟩ := itF_mem d xs (q + 1) y h
      exact ⟨by omega, by rw [List.length_cons]; omega, h3, h4, List.mem_cons_of_mem _ h5⟩
theorem itF_asc (d : Int) : ∀ (xs : List ByteArray) (q : Int), Asc (itF d q xs)
  | [], q => List.Pairwise.nil
  | x :: xs, q => by
    rw [itF]
    exact List.Pairwise.cons (fun y hy => (itF_mem d xs (q + 1) y hy).1) (itF_asc d xs (q + 1))
theorem itF_has (d : Int) : ∀ (xs : List ByteArray) (q n : Int), q < n → n ≤ q + (xs.length : Int) → hasP (itF d q xs) n = true
  | [], q, n, h1, h2 => by simp at h2; omega
  | x :: xs, q, n, h1, h2 => by
    by_cases he : n = q + 1
    · exact hasP_iff.2 ⟨_, by rw [itF]; exact List.mem_cons_self .., he.symm⟩
    · rw [List.length_cons] at h2
      obtain ⟨y, hy, e⟩ := hasP_iff.1 (itF_has d xs (q + 1) n (by omega) (by omega))
      exact hasP_iff.2 ⟨y, by rw [itF]; exact List.mem_cons_of_mem _ hy, e⟩
theorem itF_aru (d : Int) (xs : List ByteArray) : aruP (itF d 0 xs) = xs.length := by
  have hl := itF_len d xs 0
  have : ∀ k n, n + k = xs.length → aruGo (itF d 0 xs) ((itF d 0 xs).length - n) n = xs.length := by
    intro k
    induction k with
    | zero => intro n hn; rw [aruGo_end (by omega)]; omega
    | succ k ih =>
      intro n hn
      rw [aruGo_on (by omega) (itF_has d xs 0 _ (by omega) (by omega))]
      exact ih (n + 1) (by omega)
  have := this xs.length 0 (by omega)
  rwa [Nat.sub_zero] at this
theorem ins1_end {ts : List It} {y : It} (h : ∀ x ∈ ts, x.1 < y.1) : ins1 ts y = ts ++ [y] := by
  unfold ins1
  rw [if_neg (by rw [hasP_false.2 fun x hx he => by have := h x hx; omega]; simp), List.filter_eq_self.2 fun x hx => by simpa using h x hx]
  congr 1
  rw [List.filter_eq_nil_iff.2 fun x hx => by have := h x hx; simp; omega]
theorem putAll_itF (d : Int) : ∀ (ys xs : List ByteArray), putAll (itF d 0 xs) (itF d (xs.length : Int) ys) = itF d 0 (xs ++ ys)
  | [], xs => by simp [itF, putAll]
  | y :: ys, xs => by
    have h1 : ins1 (itF d 0 xs) ((xs.length : Int) + 1, d, 1, y) = itF d 0 (xs ++ [y]) := by
      rw [ins1_end fun x hx => by have := (itF_mem d xs 0 x hx).2.1; show x.1 < (xs.length : Int) + 1; omega, itF_append]
      simp [itF]
    have h2 := putAll_itF d ys (xs ++ [y])
    rw [itF]
    unfold putAll at h2 ⊢
    rw [List.foldl_cons, h1]
    rw [List.append_assoc] at h2
    simp only [List.length_append, List.length_cons, List.length_nil, List.cons_append, List.nil_append] at h2
    rw [show ((xs.length + (0 + 1) : Nat) : Int) = (xs.length : Int) + 1 by omega] at h2
    exact h2
theorem lvP_one {lv : List Int} (h : ∀ l ∈ lv, l = 1) (k : Nat) : lvP lv k = 1 := by
  unfold lvP
  rw [if_neg]
  intro e
  have := h 2 (List.mem_of_getElem? e)
  omega
theorem numGo_itF {d : Int} {lv : List Int} (hlv : ∀ l ∈ lv, l = 1) : ∀ (ts : List ByteArray) (q : Int) (k : Nat), k ≤ 3 → (∀ t ∈ ts, t.size ≤ 60) → q + 3 ≤ 60 + (k : Int) → numGo d lv q k ts = itF d q (ts.take (3 - k))
  | [], q, k, _, _, _ => by rw [numGo_stop (by simp)]; simp [itF]
  | t :: ts, q, k, hk, hs, hq => by
    by_cases h3 : k < 3
    · rw [numGo_step ⟨h3, by omega, hs t (List.mem_cons_self ..)⟩, lvP_one hlv, numGo_itF hlv ts (q + 1) (k + 1) (by omega) (fun x hx => hs x (List.mem_cons_of_mem _ hx)) (by omega), show 3 - k = (3 - (k + 1)) + 1 by omega, List.take_succ_cons, itF]
    · rw [numGo_stop (by intro x hx; omega), show 3 - k = 0 by omega]; simp [itF]
theorem missP_none {its : List It} {q : Int} (h : ((aruP its : Nat) : Int) = q) (hq : q ≤ 60) : missP its q = [] := by
  unfold missP
  rw [if_pos hq]
  cases 61 - (aruP its + 1) with
  | zero => rfl
  | succ n => rw [missGo, if_neg (by omega)]
theorem lackP_none {its : List It} {q : Int} (h : ((aruP its : Nat) : Int) = q) (hq : q ≤ 60) : lackP [] its q = [] := by
  unfold lackP lackL
  rw [missP_none h hq, List.filter_nil, List.nil_append, List.mergeSort_nil]
  rfl
theorem giveP_none (its : List It) : giveP [] its = [] := by
  unfold giveP
  exact List.filter_eq_nil_iff.2 fun x _ => by simp [inB]
theorem itF_right {d : Int} (hd : 1 ≤ d ∧ d ≤ 5) : ∀ (xs : List ByteArray) (q : Int), 0 ≤ q → q + (xs.length : Int) ≤ 60 → (∀ t ∈ xs, t.size ≤ 60) → iGo q (itF d q xs) = true
  | [], q, _, _, _ => rfl
  | x :: xs, q, h0, h1, h2 => by
    rw [List.length_cons] at h1
    rw [itF, iGo_step (by have := h2 x (List.mem_cons_self ..); unfold itB; simp; omega) (by show q < q + 1; omega)]
    exact itF_right hd xs (q + 1) (by omega) (by omega) fun t ht => h2 t (List.mem_cons_of_mem _ ht)

theorem wGo_mem : ∀ (ms : List Int) (l q x : Int), wGo l q ms = true → x ∈ ms → l < x ∧ x ≤ q
  | [], l, q, x, _, h => by cases h
  | y :: ms, l, q, x, h, hx => by
    rw [wGo] at h
    split at h
    · cases h
    · rcases List.mem_cons.1 hx with rfl | hx
      · omega
      · have := wGo_mem ms y q x h hx; omega
theorem ring_parts {i : Int} {ms : List Int} (h : ringB i ms = true) : (1 ≤ i ∧ i ≤ 9) ∧ 0 < ms.length ∧ (∀ d ∈ ms, 1 ≤ d ∧ d ≤ 5) ∧ ms.length ≤ 5 := by
  unfold ringB at h
  simp only [Bool.and_eq_true, decide_eq_true_eq] at h
  refine ⟨h.1, h.2.1, fun d hd => ?_, ?_⟩
  · have := wGo_mem ms 0 5 d h.2.2 hd; omega
  · have := wGo_len ms 0 h.2.2 (by omega); omega

/-- one member of a ring, that has said some of its texts already, and the token that comes to it. -/
structure SI (d i : Int) (ms : List Int) (xs : List ByteArray) (j : Nat) (m : Mt) (t : Tok) : Prop where
  id : m.id = d
  rid : m.rid = i
  ms : m.ms = ms
  its : m.its = itF d 0 (xs.take (3 * j))
  lv : m.lv = List.replicate (xs.length - 3 * j) 1
  tx : m.tx = xs.drop (3 * j)
  rd : m.rd = (j : Int)
  se : 0 ≤ m.se ∧ m.se ≤ 60
  li : 0 ≤ m.li ∧ m.li ≤ ((xs.take (3 * j)).length : Int)
  he : m.he = 0
  la : (ntB m.la.c m.la.r m.la.q m.la.a m.la.b m.la.ws || tkB m.la.c m.la.r m.la.q m.la.a m.la.b m.la.ws) = true
  t : t = ⟨i, (j : Int) + 1, ((xs.take (3 * j)).length : Int), ((xs.take (3 * j)).length : Int), 0, []⟩
  las : m.la.ws = []
/-- what holds of the ring and the texts. -/
structure SH (d i : Int) (ms : List Int) (xs : List ByteArray) : Prop where
  ring : ringB i ms = true
  mem : d ∈ ms
  len : xs.length ≤ 9
  sz : ∀ t ∈ xs, t.size ≤ 60
section
variable {d i : Int} {ms : List Int} {xs : List ByteArray} {j : Nat} {m : Mt} {t : Tok}
theorem SH.tk (h : SH d i ms xs) (hj : j ≤ 4) : tkB i ((j : Int) + 1) ((xs.take (3 * j)).length : Int) ((xs.take (3 * j)).length : Int) 0 [] = true := by
  have h1 := (ring_parts h.ring).1
  have h2 := h.len
  have h3 : (xs.take (3 * j)).length ≤ 9 := by rw [List.length_take]; omega
  unfold tkB wB
  simp only [Bool.and_eq_true, decide_eq_true_eq]
  exact ⟨h1, by omega, by omega, by omega, by omega, by simp, rfl⟩
theorem SI.right (s : SI d i ms xs j m t) (h : SH d i ms xs) (hj : j ≤ 4) : m.ok = true := by
  have hd := (ring_parts h.ring).2.2.1 d h.mem
  have h2 := h.len
  have h3 : (xs.take (3 * j)).length ≤ 9 := by rw [List.length_take]; omega
  have hi : iGo 0 m.its = true := by rw [s.its]; exact itF_right hd _ 0 (by omega) (by omega) fun t ht => h.sz t (List.mem_of_mem_take ht)
  have ha : aruP m.its = (xs.take (3 * j)).length := by rw [s.its]; exact itF_aru d _
  have hs : sayB m.lv m.tx = true := by
    unfold sayB lvsB fitB
    rw [s.lv, s.tx]
    simp only [Bool.and_eq_true, decide_eq_true_eq, List.all_eq_true, List.length_drop, List.length_replicate]
    refine ⟨by omega, trivial, fun l hl => ?_, fun t ht => h.sz t (List.mem_of_mem_drop ht)⟩
    rw [(List.mem_replicate.1 hl).2]; rfl
  unfold Mt.ok
  rw [s.rid, s.ms, s.id, h.ring, hi, hs, s.la, ha, s.rd, s.he]
  have hin : inB ms d = true := by unfold inB; simpa using h.mem
  rw [hin]
  have h4 := s.se
  have h5 := s.li
  simp only [Bool.true_and, Bool.and_true, Bool.and_eq_true, decide_eq_true_eq]
  exact ⟨by omega, by omega, by omega, by omega⟩
theorem SI.may (s : SI d i ms xs j m t) (h : SH d i ms xs) (hj : j ≤ 4) : mayB m t = true := by
  unfold mayB
  rw [s.t]
  simp only [Bool.and_eq_true, decide_eq_true_eq]
  exact ⟨h.tk hj, s.rid.symm, by rw [s.rd]; omega, by omega⟩
theorem SI.fresh (s : SI d i ms xs j m t) (h : SH d i ms xs) (hj : j ≤ 4) : freshL m t = itF d ((xs.take (3 * j)).length : Int) ((xs.drop (3 * j)).take 3) := by
  have hd := (ring_parts h.ring).2.2.1 d h.mem
  have h2 := h.len
  have h3 : (xs.take (3 * j)).length ≤ 9 := by rw [List.length_take]; omega
  unfold freshL numL numOk
  rw [s.t, s.id, s.lv, s.tx]
  rw [h.tk hj, decide_eq_true hd]
  simp only [Bool.and_self, if_true]
  exact numGo_itF (fun l hl => (List.mem_replicate.1 hl).2) _ _ 0 (by omega) (fun t ht => h.sz t (List.mem_of_mem_drop ht)) (by omega)
theorem SI.said (s : SI d i ms xs j m t) (h : SH d i ms xs) (hj : j ≤ 4) : saidL m t = itF d ((xs.take (3 * j)).length : Int) ((xs.drop (3 * j)).take 3) := by
  unfold saidL
  rw [s.fresh h hj, s.t, giveP_none]; rfl
theorem take_three (xs : List ByteArray) (j : Nat) : xs.take (3 * j) ++ (xs.drop (3 * j)).take 3 = xs.take (3 * (j + 1)) := by
  rw [show 3 * (j + 1) = 3 * j + 3 by omega, List.take_add]
theorem SI.items (s : SI d i ms xs j m t) (h : SH d i ms xs) (hj : j ≤ 4) : (m.spoke t).its = itF d 0 (xs.take (3 * (j + 1))) := by
  show putAll m.its (freshL m t) = _
  rw [s.fresh h hj, s.its, putAll_itF, take_three]
theorem SI.next (s : SI d i ms xs j m t) (h : SH d i ms xs) (hj : j ≤ 3) : SI d i ms xs (j + 1) (m.held t) (nxTok m t) := by
  have hd := (ring_parts h.ring).2.2.1 d h.mem
  have h2 := h.len
  have hit := s.items h (by omega)
  have ha : aruP (m.spoke t).its = (xs.take (3 * (j + 1))).length := by rw [hit]; exact itF_aru d _
  have h3 : (xs.take (3 * (j + 1))).length ≤ 9 := by rw [List.length_take]; omega
  have h4 : (xs.take (3 * j)).length ≤ (xs.take (3 * (j + 1))).length := by rw [List.length_take, List.length_take]; omega
  have hfl : (freshL m t).length = ((xs.drop (3 * j)).take 3).length := by rw [s.fresh h (by omega), itF_len]
  have hql : ((xs.take (3 * j)).length : Int) + ((freshL m t).length : Int) = ((xs.take (3 * (j + 1))).length : Int) := by
    rw [hfl, ← take_three, List.length_append]; omega
  have htk := h.tk (j := j) (by omega)
  have hQ : nxQ m t = ((xs.take (3 * (j + 1))).length : Int) := by
    unfold nxQ numQ
    show t.q + ((freshL m t).length : Int) = _
    rw [← hql, s.t]
  have hA : nxA m t = ((xs.take (3 * (j + 1))).length : Int) := by
    unfold nxA numA
    have hok : numOk t.c t.r t.q t.a t.b t.ws m.id = true := by unfold numOk; rw [s.t, s.id, htk, decide_eq_true hd]; rfl
    rw [if_pos hok, if_pos (by rw [s.t]; unfold numF; simp)]
    exact hQ
  have hM : nxTok m t = ⟨i, ((j + 1 : Nat) : Int) + 1, ((xs.take (3 * (j + 1))).length : Int), ((xs.take (3 * (j + 1))).length : Int), 0, []⟩ := by
    unfold nxTok markA markD
    rw [hQ, hA, ha]
    have hL : lackP t.ws (m.spoke t).its ((xs.take (3 * (j + 1))).length : Int) = [] := by
      have hws : t.ws = [] := by rw [s.t]
      rw [hws]; exact lackP_none (by rw [ha]) (by omega)
    rw [hL, s.t]
    have e1 : aruM ((xs.take (3 * (j + 1))).length : Int) ((xs.take (3 * (j + 1))).length : Int) 0 m.id ((xs.take (3 * (j + 1))).length : Int) = ((xs.take (3 * (j + 1))).length : Int) := by
      unfold aruM; rw [if_neg (by omega), if_neg (by rw [s.id]; omega)]
    have e2 : byM ((xs.take (3 * (j + 1))).length : Int) ((xs.take (3 * (j + 1))).length : Int) 0 m.id ((xs.take (3 * (j + 1))).length : Int) = 0 := by
      unfold byM; rw [if_neg (by omega), if_neg (by rw [s.id]; omega)]
    simp only [e1, e2, ite_self]
    simp
  refine ⟨s.id, s.rid, s.ms, hit, ?_, ?_, ?_, ?_, ?_, s.he, ?_, hM, by show (nxTok m t).ws = []; rw [hM]⟩
  · show m.lv.drop (goneN m) = _
    unfold goneN
    rw [s.lv, s.tx, List.drop_replicate, List.length_drop]
    congr 1 <;> omega
  · show m.tx.drop (goneN m) = _
    unfold goneN
    rw [s.tx, List.drop_drop, List.length_drop]
    by_cases hc : 3 ≤ xs.length - 3 * j
    · rw [Nat.min_eq_left hc]; congr 1 <;> omega
    · rw [Nat.min_eq_right (by omega), List.drop_eq_nil_of_le (by omega), List.drop_eq_nil_of_le (by omega)]
  · show t.r = _
    rw [s.t]; simp
  · show 0 ≤ t.a ∧ t.a ≤ 60
    rw [s.t]; simp only; omega
  · show 0 ≤ lineP m.li m.se (aruP (m.spoke t).its) t.a ∧ lineP m.li m.se (aruP (m.spoke t).its) t.a ≤ _
    have h5 := s.li
    have h6 := s.se
    have h7 : t.a = ((xs.take (3 * j)).length : Int) := by rw [s.t]
    rw [ha, h7]
    unfold lineP leastP
    repeat' split
    all_goals omega
  · show (ntB (nxTok m t).c (nxTok m t).r (nxTok m t).q (nxTok m t).a (nxTok m t).b (nxTok m t).ws || tkB (nxTok m t).c (nxTok m t).r (nxTok m t).q (nxTok m t).a (nxTok m t).b (nxTok m t).ws) = true
    rw [hM]
    have := h.tk (j := j + 1) (by omega)
    simp only [Bool.or_eq_true]
    right
    exact this
end
end Go.Proofs.Ythdjkkiegecgnaa


/- What one member says and hears, in plain words: the members that FnSays meets. -/
namespace Go.Proofs.Ythdjkkiegecgnaa
open Go.RowKit Pl
set_option linter.unusedVariables false
set_option linter.unusedSimpArgs false

/-- the member behind k texts. -/
def sayK (d i : Int) (ms : List Int) (ts : List ByteArray) (k : Nat) : Mt := ⟨d, i, ms, [], List.replicate k 1, ts.take k, 0, 0, 0, 0, zTok⟩
theorem itF_texts (d : Int) : ∀ (xs : List ByteArray) (q : Int), (itF d q xs).map (·.2.2.2) = xs
  | [], _ => rfl
  | x :: xs, q => by rw [itF, List.map_cons, itF_texts d xs]
theorem sayK_s {d i : Int} {ms : List Int} {ts : List ByteArray} (h : SH d i ms ts) {k : Nat} (hk : k ≤ 9) : MtS (sayK d i ms ts k) := by
  have h1 := (ring_parts h.ring).2.2.2
  have h2 := h.len
  have h3 : (ts.take k).length ≤ 9 := by rw [List.length_take]; omega
  have e3 : (sayK d i ms ts k).lv.length = k := List.length_replicate ..
  have e4 : (sayK d i ms ts k).tx.length ≤ 9 := h3
  have e1 : (sayK d i ms ts k).ms.length ≤ 5 := h1
  have e2 : (sayK d i ms ts k).its.length = 0 := rfl
  have e5 : (sayK d i ms ts k).la.ws.length = 0 := rfl
  refine ⟨by omega, by omega, by omega, by omega, by omega, fun x hx => (by cases hx), fun x hx => ?_, by omega⟩
  have := h.sz _ (List.mem_of_mem_take (show x ∈ ts.take k from hx))
  omega
theorem ownS_made (w : World) : OwnS (w.alloc (.cells #[] 9)) w.heap.size (.slice (some ⟨w.heap.size, 0, none⟩) 0 0) [] := OwnS.made w _ (Nat.le_refl _)
theorem sayK_si {d i : Int} {ms : List Int} {ts : List ByteArray} {k : Nat} (h : SH d i ms ts) (hk : k = ts.length) : SI d i ms ts 0 (sayK d i ms ts k) ⟨i, 1, 0, 0, 0, []⟩ := by
  subst hk
  refine ⟨rfl, rfl, rfl, by simp [sayK, itF], by simp [sayK], by simp [sayK], rfl, by simp [sayK], by simp [sayK], rfl, by simp [sayK, zTok, ntB], by simp, rfl⟩
theorem sayK_ok {d i : Int} {ms : List Int} {ts : List ByteArray} (h : SH d i ms ts) {k : Nat} {x : ByteArray} (hk : k < 9) (hl : k ≤ ts.length) (hx : x.size ≤ 60) : sayOk (sayK d i ms ts k) 1 x = true := by
  have hd := (ring_parts h.ring).2.2.1 d h.mem
  have hin : inB ms d = true := by unfold inB; simpa using h.mem
  have ho : (sayK d i ms ts k).ok = true := by
    unfold Mt.ok sayK
    simp only []
    rw [h.ring, hin]
    simp [iGo, sayB, lvsB, fitB, zTok, ntB]
    refine ⟨by omega, by omega, .inr rfl, fun t ht => h.sz t (List.mem_of_mem_take ht)⟩
  unfold sayOk
  rw [ho]
  simp [sayK, lvB]
  omega
theorem itF_get (d : Int) : ∀ (xs : List ByteArray) (q : Int) (k : Nat) (hk : k < (itF d q xs).length), ∃ x, (itF d q xs)[k] = (q + (k : Int) + 1, d, 1, x)
  | [], q, k, hk => by simp [itF] at hk
  | x :: xs, q, 0, hk => ⟨x, by simp [itF]⟩
  | x :: xs, q, k + 1, hk => by
    obtain ⟨y, hy⟩ := itF_get d xs (q + 1) k (by simpa [itF] using hk)
    refine ⟨y, ?_⟩
    simp only [itF, List.getElem_cons_succ]
    rw [hy]
    congr 1
    omega
theorem itF_at (d : Int) (xs : List ByteArray) (k : Nat) (hk : k < xs.length) : ∃ x, atP (itF d 0 xs) ((k : Int) + 1) = some ((k : Int) + 1, d, 1, x) := by
  have hl : k < (itF d 0 xs).length := by rw [itF_len]; exact hk
  obtain ⟨x, hx⟩ := itF_get d xs 0 k hl
  rw [Int.zero_add] at hx
  refine ⟨x, ?_⟩
  rw [← hx]
  refine atP_here hl (by rw [hx]) fun y hy => ?_
  obtain ⟨n, hn, rfl⟩ := List.mem_iff_getElem.1 hy
  rw [List.length_take] at hn
  rw [List.getElem_take]
  obtain ⟨z, hz⟩ := itF_get d xs 0 n (by omega)
  rw [hz]
  show ¬ 0 + (n : Int) + 1 = _
  omega
theorem hears_itF (d li : Int) (xs : List ByteArray) : ∀ (n k : Nat), k + n = xs.length → (hears (itF d 0 xs) li n (k : Int)).length = n
  | 0, k, _ => rfl
  | n + 1, k, h => by
    obtain ⟨x, hx⟩ := itF_at d xs k (by omega)
    rw [hears_go hx (by simp [waitB]), List.length_cons]
    have := hears_itF d li xs n (k + 1) (by omega)
    rw [show ((k + 1 : Nat) : Int) = (k : Int) + 1 by omega] at this
    rw [this]
section
variable {d i : Int} {ms : List Int} {xs : List ByteArray} {m : Mt} {t : Tok}
theorem SI.all (h : SH d i ms xs) : xs.take (3 * 4) = xs := List.take_of_length_le (by have := h.len; omega)
theorem SI.hears (s : SI d i ms xs 4 m t) (h : SH d i ms xs) : m.hear.length = xs.length := by
  unfold Mt.hear
  rw [s.its, SI.all h, itF_aru, s.he]
  have := hears_itF d m.li xs xs.length 0 (by omega)
  rw [show ((xs.length : Int) - 0).toNat = xs.length by omega]
  exact this
theorem SI.aru (s : SI d i ms xs 4 m t) (h : SH d i ms xs) : aruP m.its = xs.length := by
  rw [s.its, SI.all h]; exact itF_aru d _
theorem SI.had (s : SI d i ms xs 4 m t) (h : SH d i ms xs) : m.hadH.ok = true := by
  have h1 := s.right h (by omega)
  have h2 := s.hears h
  have h3 := s.aru h
  unfold Mt.ok at h1 ⊢
  simp only [Bool.and_eq_true, decide_eq_true_eq] at h1 ⊢
  obtain ⟨a1, a2, a3, a4, a5, a6, a7, a8, a9⟩ := h1
  refine ⟨a1, a2, a3, a4, a5, a6, a7, ?_, a9⟩
  show 0 ≤ m.he + (m.hear.length : Int) ∧ m.he + (m.hear.length : Int) ≤ ((aruP m.its : Nat) : Int)
  rw [s.he, h2, h3]; omega
theorem SI.none (s : SI d i ms xs 4 m t) (h : SH d i ms xs) : m.tx = [] := by
  rw [s.tx]; exact List.drop_eq_nil_of_le (by have := h.len; omega)
end
end Go.Proofs.Ythdjkkiegecgnaa


/- The law on what a member says, walked. Written by gen_fsw.py. -/
namespace Go.Proofs.Ythdjkkiegecgnaa
open Go.RowKit Pl
set_option linter.unusedVariables false
set_option linter.unusedSimpArgs false

theorem Pl.CodeAt.up {w : World} {B B' : Nat} {ao : Option Addr} {n : Nat} (h : CodeAt w B ao n) (hB : B ≤ B') : CodeAt w B' ao n := fun i hi => by
  obtain ⟨b, off, z, h1, h2, h3⟩ := h i hi
  exact ⟨b, off, z, h1, by omega, h3⟩
theorem Pl.IntsAt.at0 {w : World} {b off : Nat} {xs : List Int} (h : IntsAt w (some ⟨b, off, none⟩) xs) (k : Nat) (hk : k < xs.length) : b < w.heap.size ∧ w.cell? ⟨b, off + k, none⟩ = some (.int .i64 xs[k]) := by
  obtain ⟨b', off', e, h1, h2⟩ := h k hk
  simp at e
  obtain ⟨rfl, rfl⟩ := e
  exact ⟨h1, h2⟩
theorem MtC.kt {S : Nat → Prop} {w w' : World} {B : Nat} {m : Mt} {u : Mv} (h : MtC w B m u) (k : KeepTy S w w') (h3 : ¬ S 3) (h9 : ¬ S 9) (hi : ¬ S 38) : MtC w' B m u := ⟨h.ms.kt k h3, h.its.kt k hi, h.lv.kt k h3, h.tx.kt k h9, h.ws.kt k h3⟩
theorem MtC.later {w w' : World} {B : Nat} {m : Mt} {u : Mv} (h : MtC w B m u) (hb : Below w.heap.size w w') : MtC w' B m u := h.kt (S := fun _ => False) (KeepTy.ofBelow hb) (fun h => h) (fun h => h) (fun h => h)
theorem MtC.q {w : World} {B : Nat} {m : Mt} {u : Mv} (h : MtC w B m u) : MtQ w m u := ⟨h.ms.ri, h.its.rit, h.lv.ri, h.tx.rt, h.ws.down (Nat.zero_le _)⟩
theorem MtC.down {w : World} {B B' : Nat} {m : Mt} {u : Mv} (h : MtC w B m u) (hB : B' ≤ B) : MtC w B' m u := ⟨h.ms.down hB, h.its.down hB, Sl.down h.lv hB, Sl.down h.tx hB, h.ws.down hB⟩
theorem MtP.c {w : World} {m : Mt} {u : Mv} (h : MtP w m u) : MtC w 0 m u := ⟨h.ms, h.its, h.lv.j, h.tx.x, h.ws⟩
theorem first_r {w : World} {v : Value} (i : Int) (ws : List Int) (h : Hid (RI w v ws)) (hl : ws.length ≤ 1048576) (hr : Hid (ringB i ws = true)) :
    Calls Try.prog 19 #[.agg #[.int .i64 i, v]] w fun e w' => e = .returned (.agg #[.int .i64 i, .int .i64 1, .int .i64 0, .int .i64 0, .int .i64 0, .slice none 0 0]) ∧ Below w.heap.size w w' := by
  obtain ⟨ao, cap, rfl, hx⟩ := h.out; exact first_yes i ao cap ws w hx hl hr
section
variable {d i : Int} {ms : List Int} {xs : List ByteArray} {j : Nat} {m : Mt} {t : Tok}
theorem SI.sizes (s : SI d i ms xs j m t) (h : SH d i ms xs) : MtS m := by
  have h1 := (ring_parts h.ring).2.2.2
  have h2 := h.len
  have h3 : (xs.take (3 * j)).length ≤ 9 := by rw [List.length_take]; omega
  have e1 : m.ms.length ≤ 5 := by rw [s.ms]; exact h1
  have e2 : m.its.length ≤ 9 := by rw [s.its, itF_len]; exact h3
  have e3 : m.lv.length ≤ 9 := by rw [s.lv, List.length_replicate]; omega
  have e4 : m.tx.length ≤ 9 := by rw [s.tx, List.length_drop]; omega
  have e5 : m.la.ws.length = 0 := by rw [s.las]; rfl
  refine ⟨by omega, by omega, by omega, by omega, by omega, fun x hx => ?_, fun x hx => ?_, by omega⟩
  · rw [s.its] at hx
    have := h.sz _ (List.mem_of_mem_take (itF_mem d _ 0 x hx).2.2.2.2)
    omega
  · rw [s.tx] at hx
    have := h.sz _ (List.mem_of_mem_drop hx)
    omega
theorem SI.fits (s : SI d i ms xs j m t) (h : SH d i ms xs) (hj : j ≤ 4) : (m.its.length ≤ 9 ∧ m.lv.length = m.tx.length ∧ Asc m.its ∧ (0 ≤ m.rd ∧ m.rd ≤ 1000000000) ∧ (0 ≤ t.r ∧ t.r ≤ 999999999)) ∧ (∀ x ∈ freshL m t, x.2.2.2.size ≤ 1048576) ∧ (putAll m.its (freshL m t)).length ≤ 9 ∧ (giveP t.ws m.its).length ≤ 9 ∧ t.ws = [] := by
  have h2 := h.len
  have h3 : (xs.take (3 * j)).length ≤ 9 := by rw [List.length_take]; omega
  refine ⟨⟨by rw [s.its, itF_len]; exact h3, by rw [s.lv, s.tx, List.length_replicate, List.length_drop], by rw [s.its]; exact itF_asc d _ 0, by rw [s.rd]; omega, by rw [s.t]; simp only; omega⟩, fun x hx => ?_, ?_, ?_, by rw [s.t]⟩
  · rw [s.fresh h hj] at hx
    have := h.sz _ (List.mem_of_mem_drop (List.mem_of_mem_take (itF_mem d _ _ x hx).2.2.2.2))
    omega
  · have := s.items h hj
    have e : (m.spoke t).its = putAll m.its (freshL m t) := rfl
    rw [← e, this, itF_len, List.length_take]; omega
  · have e : t.ws = [] := by rw [s.t]
    rw [e, giveP_none]; simp
end
theorem sameT_k (k : Nat) (a1 a2 : Option Addr) (c1 c2 : Nat) (ss : List ByteArray) (w : World) (hk : Hid (k = ss.length)) (h1 : Hid (TextsAt w a1 ss)) (h2 : Hid (TextsAt w a2 ss)) (hl : k ≤ 1048577) :
    Calls Try.prog 21 #[.slice a1 k c1, .slice a2 k c2] w fun e w' => e = .returned (.bool true) ∧ Below w.heap.size w w' := by
  have e := hk.out
  subst e
  exact sameT_any a1 a2 c1 c2 ss w h1 h2 hl

set_option maxRecDepth 100000 in
set_option maxHeartbeats 16000000 in
theorem lawSays (w : World) (n cap : Nat) (ao : Option Addr) (hk : Hid (CodeAt w w.heap.size ao n)) :
    Calls Try.prog 4 #[.slice ao n cap] w fun e w' => e = .returned (.bool true) ∧ Below w.heap.size w w' := by
  by_cases hbig : 1048576 < n
  · go_enter Try.func4, Try.ntmps4
    go_wp2_with fail
    refine (big_any w n cap ao true (by simp; omega)).mono ?_
    rintro e w1 ⟨rfl, hw⟩
    obtain rfl := hw.symm
    go_wp2_with fail
    go_ret
    exact ⟨rfl, Below.refl _ _⟩
  have hn : n ≤ 1048576 := by omega
  go_enter Try.func4, Try.ntmps4
  go_wp2_with fail
  refine (big_any w n cap ao false (by simp; omega)).mono ?_
  rintro e w1 ⟨rfl, hw⟩
  obtain rfl := hw.symm
  clear hw hbig
  go_wp2_with fail
  refine (drawRing_any w n cap ao hn hk).mono ?_
  rintro e w1 ⟨i, ms, v, HRG, hv, rfl, B1⟩
  have hm0 : 0 < ms.length := (ring_parts HRG.out).2.1
  have hm5 : ms.length ≤ 1048576 := by have := (ring_parts HRG.out).2.2.2; omega
  have XX := hv.out.ints
  obtain ⟨av, cv, hvf, hxx⟩ := XX
  obtain ⟨sb, so, ea, _, _⟩ := hxx 0 hm0
  subst ea
  obtain ⟨nm, hnm⟩ : ∃ nm, nm = ms.length := ⟨_, rfl⟩
  rw [← hnm] at hvf
  subst hvf
  have HNM : Hid (nm = ms.length) := hnm
  clear hnm
  have R1 : Hid (Bx (w1.alloc (.cells #[.int .i64 i, .slice (some ⟨sb, so, none⟩) nm cv] 26)) w1.heap.size 26 [.int .i64 i, .slice (some ⟨sb, so, none⟩) nm cv]) := Bx.new w1 26 _
  have b1 : Below w1.heap.size w1 (w1.alloc (.cells #[.int .i64 i, .slice (some ⟨sb, so, none⟩) nm cv] 26)) := (Below.refl _ _).alloc (Nat.le_refl _) _
  have V1 : Hid (OwnI (w1.alloc (.cells #[.int .i64 i, .slice (some ⟨sb, so, none⟩) nm cv] 26)) w.heap.size (.slice (some ⟨sb, so, none⟩) nm cv) ms) := hv.out.alloc _
  have BW : Hid (Below w.heap.size w (w1.alloc (.cells #[.int .i64 i, .slice (some ⟨sb, so, none⟩) nm cv] 26))) := bl_next B1 b1
  have hk1 : Hid (CodeAt (w1.alloc (.cells #[.int .i64 i, .slice (some ⟨sb, so, none⟩) nm cv] 26)) (w1.alloc (.cells #[.int .i64 i, .slice (some ⟨sb, so, none⟩) nm cv] 26)).heap.size ao n) := (hk.out.stays BW.out (Nat.le_refl _)).up BW.out.size
  clear hv hk B1 b1 hxx
  go_wp2_with fail
  generalize w1.alloc (.cells #[.int .i64 i, .slice (some ⟨sb, so, none⟩) nm cv] 26) = W1 at *
  generalize w1.heap.size = gr at *
  have V1 : Hid (OwnI W1 0 (.slice (some ⟨sb, so, none⟩) nm cv) ms) := V1.out.down (Nat.zero_le _)
  refine (drawTexts W1 n cap ao hn hk1).mono ?_
  rintro e w2 ⟨⟨v2, ts, rfl, ht8, HSH, hv2⟩, b2⟩
  clear hk1
  have R1 : Hid (Bx w2 gr 26 [.int .i64 i, .slice (some ⟨sb, so, none⟩) nm cv]) := R1.out.later b2
  have V1 : Hid (OwnI w2 0 (.slice (some ⟨sb, so, none⟩) nm cv) (ms)) := V1.out.keep fun _ _ hk => b2.block _ hk
  have BW : Hid (Below w.heap.size w w2) := bl_next BW.out b2
  obtain ⟨swa, swc, hswf⟩ := hv2.out.form
  obtain ⟨nw, hnw⟩ : ∃ nw, nw = ts.length := ⟨_, rfl⟩
  rw [← hnw] at hswf
  subst hswf
  have WD : Hid (OwnS w2 0 (.slice swa nw swc) (ts)) := hv2.out.down (Nat.zero_le _)
  clear hv2 b2
  have HNW : Hid (nw = ts.length) := hnw
  have hn8 : nw ≤ 8 := by omega
  clear hnw
  obtain ⟨hsb, hcl⟩ := (show IntsAt w2 (some ⟨sb, so, none⟩) ms from by obtain ⟨a0, c0, e0, x0⟩ := V1.out.ints; simp at e0; rw [e0.1]; exact x0).at0 0 hm0
  rw [Nat.add_zero] at hcl
  obtain ⟨d, hd⟩ : ∃ d, d = ms[0] := ⟨_, rfl⟩
  rw [← hd] at hcl
  have HDM : Hid (d ∈ ms) := (by rw [hd]; exact List.getElem_mem hm0 : d ∈ ms)
  have HIN : Hid ((ringB i ms && inB ms d) = true) := (by rw [HRG.out]; have := HDM.out; unfold inB; simpa using this : (ringB i ms && inB ms d) = true)
  have n0 : 0 < nm := by have := HNM.out; omega
  clear hd
  have R12 : Hid (gr < w2.heap.size) := R1.out.lt
  go_wp2_with fail
  go_cut [5, 6] (fun u5 u6 wx => ∃ (gm : Nat) (um : Sv), u5 = .pointer (some ⟨gm, 0, none⟩) ∧ u6 = .bool true ∧ Bx wx gm 32 [.int .i64 d, .int .i64 i, .slice um.a um.n um.c, .slice none 0 0, .slice none 0 0, .slice none 0 0, .int .i64 0, .int .i64 0, .int .i64 0, .int .i64 0, .int .i64 0, .int .i64 0, .int .i64 0, .int .i64 0, .int .i64 0, .slice none 0 0] ∧ OwnI wx w2.heap.size um.v ms ∧ w2.heap.size ≤ gm ∧ Below w2.heap.size w2 wx)
  case first =>
    have KEEP : Hid (∀ w', Below w2.heap.size w2 w' → (w'.cell? ⟨gr, 1, none⟩ = some (.slice (some ⟨sb, so, none⟩) nm cv) ∧ w'.cell? ⟨sb, so, none⟩ = some (.int .i64 d)) ∧ Hid (Below w2.heap.size w2 w')) := fun w' hb => ⟨⟨(R1.out.later hb).cell 1, (hb.cell (p := ⟨sb, so, none⟩) hsb).trans hcl⟩, hb⟩
    have c : Below w2.heap.size w2 w2.drew := (Below.refl _ _).drew
    refine wp_region_held_drew (S := fun w' => (w'.cell? ⟨gr, 1, none⟩ = some (.slice (some ⟨sb, so, none⟩) nm cv) ∧ w'.cell? ⟨sb, so, none⟩ = some (.int .i64 d)) ∧ Hid (Below w2.heap.size w2 w')) (by kernel_rfl) (KEEP.out _ c) (fun hHeld => ?_)
    refine wpAnyH_take (i := 0) (v := ?v0b1) rfl (by kernel_rfl) (by kernel_rfl) (by kernel_rfl) (fun _ _ _ h => h) (Or.inl ⟨by rfl, ?hy0b1⟩) (by assumption) ?_
    case hy0b1 => (intro w hSw; (try dsimp only at hSw); simp only [List.getElem_toArray, List.getElem_cons_zero, List.getElem_cons_succ]; go_simp; try with_reducible rfl)
    try simp only [Act.put, List.getElem_toArray, List.getElem_cons_zero, List.getElem_cons_succ, List.setIfInBounds_toArray, List.set_cons_zero, List.set_cons_succ]
    refine wpAnyH_take (i := 1) (v := ?v1b2) rfl (by kernel_rfl) (by kernel_rfl) (by kernel_rfl) (fun _ _ _ h => h) (Or.inl ⟨by rfl, ?hy1b2⟩) (by assumption) ?_
    case hy1b2 => (intro w hSw; (try dsimp only at hSw); simp only [List.getElem_toArray, List.getElem_cons_zero, List.getElem_cons_succ]; go_simp; try with_reducible rfl)
    try simp only [Act.put, List.getElem_toArray, List.getElem_cons_zero, List.getElem_cons_succ, List.setIfInBounds_toArray, List.set_cons_zero, List.set_cons_succ]
    refine wpAnyH_take (i := 2) (v := ?v2b3) rfl (by kernel_rfl) (by kernel_rfl) (by kernel_rfl) (fun _ _ _ h => h) (Or.inl ⟨by rfl, ?hy2b3⟩) (by assumption) ?_
    case hy2b3 => (intro w hSw; (try dsimp only at hSw); simp only [List.getElem_toArray, List.getElem_cons_zero, List.getElem_cons_succ]; go_simp; try with_reducible rfl)
    try simp only [Act.put, List.getElem_toArray, List.getElem_cons_zero, List.getElem_cons_succ, List.setIfInBounds_toArray, List.set_cons_zero, List.set_cons_succ]
    refine wpAnyH_take (i := 3) (v := ?v3b4) rfl (by kernel_rfl) (by kernel_rfl) (by kernel_rfl) (fun _ _ _ h => h) (Or.inl ⟨by rfl, ?hy3b4⟩) (by assumption) ?_
    case hy3b4 => (intro w hSw; (try dsimp only at hSw); simp only [List.getElem_toArray, List.getElem_cons_zero, List.getElem_cons_succ]; go_simp; try with_reducible rfl)
    try simp only [Act.put, List.getElem_toArray, List.getElem_cons_zero, List.getElem_cons_succ, List.setIfInBounds_toArray, List.set_cons_zero, List.set_cons_succ]
    refine wpAnyH_take (i := 4) (v := _) rfl (by kernel_rfl) (by kernel_rfl) (by kernel_rfl) (fun _ _ _ h => h) (ld_yield (by rfl) 26 _ rfl gr 0 rfl 26 _ (fun w hS => R1.out.later hS.2.out) [.int .i64 i, .slice (some ⟨sb, so, none⟩) nm cv] rfl _ Try.underlying26 rfl Try.sizeR) (by assumption) ?_
    try simp only [Act.put, List.getElem_toArray, List.getElem_cons_zero, List.getElem_cons_succ, List.setIfInBounds_toArray, List.set_cons_zero, List.set_cons_succ]
    refine wpAnyH_ready (rs := [5, 9]) (by kernel_rfl) (by simp) ?_
    refine (AllReadyH.cons (i := 5) rfl (fun K hK => ?_) (AllReadyH.cons (i := 9) rfl (fun K hK => ?_) AllReadyH.nil))
    · skip
      rw [if_pos (by rfl)]
      simp only [List.getElem_toArray, List.getElem_cons_zero, List.getElem_cons_succ]
      go_simp
      refine (mateNew_yes d i ⟨some ⟨sb, so, none⟩, nm, cv⟩ ms _ (show Hid (RI w2.drew (.slice (some ⟨sb, so, none⟩) nm cv) ms) from V1.out.ri.stays c) hm5 HIN).mono ?_
      rintro e y1 ⟨um, rfl, om, b⟩
      have zc : w2.heap.size ≤ w2.drew.heap.size := c.size
      have OM : Hid (OwnI y1 w2.heap.size (.slice um.a um.n um.c) ms) := om.down zc
      have c : Below w2.heap.size w2 y1 := bl_next c b
      refine hK.out _ _ (KEEP.out _ c) (fun hHeld => ?_)
      clear hK K
      try simp only [Act.put, List.getElem_toArray, List.getElem_cons_zero, List.getElem_cons_succ, List.setIfInBounds_toArray, List.set_cons_zero, List.set_cons_succ]
      clear b zc
      refine wpAnyH_take (i := 6) (v := ?v6b6) rfl (by kernel_rfl) (by kernel_rfl) (by kernel_rfl) (fun _ _ _ h => h) (Or.inl ⟨by rfl, ?hy6b6⟩) (by assumption) ?_
      case hy6b6 => (intro w hSw; (try dsimp only at hSw); simp only [List.getElem_toArray, List.getElem_cons_zero, List.getElem_cons_succ]; go_simp; try with_reducible rfl)
      try simp only [Act.put, List.getElem_toArray, List.getElem_cons_zero, List.getElem_cons_succ, List.setIfInBounds_toArray, List.set_cons_zero, List.set_cons_succ]
      refine wpAnyH_take (i := 7) (v := ?v7b7) rfl (by kernel_rfl) (by kernel_rfl) (by kernel_rfl) (fun _ _ _ h => h) (Or.inl ⟨by rfl, ?hy7b7⟩) (by assumption) ?_
      case hy7b7 => (intro w hSw; (try dsimp only at hSw); simp only [List.getElem_toArray, List.getElem_cons_zero, List.getElem_cons_succ]; go_simp; try with_reducible rfl)
      try simp only [Act.put, List.getElem_toArray, List.getElem_cons_zero, List.getElem_cons_succ, List.setIfInBounds_toArray, List.set_cons_zero, List.set_cons_succ]
      refine wpAnyH_take (i := 8) (v := ?v8b8) rfl (by kernel_rfl) (by kernel_rfl) (by kernel_rfl) (fun _ _ _ h => h) (Or.inl ⟨by rfl, ?hy8b8⟩) (by assumption) ?_
      case hy8b8 => (intro w hSw; (try dsimp only at hSw); simp only [List.getElem_toArray, List.getElem_cons_zero, List.getElem_cons_succ]; go_simp; try with_reducible rfl)
      try simp only [Act.put, List.getElem_toArray, List.getElem_cons_zero, List.getElem_cons_succ, List.setIfInBounds_toArray, List.set_cons_zero, List.set_cons_succ]
      refine wpAnyH_ready (rs := [9]) (by kernel_rfl) (by simp) ?_
      refine AllReadyH.cons (i := 9) rfl (fun K hK => ?_) AllReadyH.nil
      rw [if_pos (by rfl)]
      simp only [List.getElem_toArray, List.getElem_cons_zero, List.getElem_cons_succ]
      go_simp
      have BX2 : Hid (Bx (y1.alloc (.cells #[.int .i64 0, .int .i64 0, .slice none 0 0, .slice none 0 0, .slice none 0 0, .slice none 0 0, .int .i64 0, .int .i64 0, .int .i64 0, .int .i64 0, .int .i64 0, .int .i64 0, .int .i64 0, .int .i64 0, .int .i64 0, .slice none 0 0] 32)) y1.heap.size 32 [.int .i64 0, .int .i64 0, .slice none 0 0, .slice none 0 0, .slice none 0 0, .slice none 0 0, .int .i64 0, .int .i64 0, .int .i64 0, .int .i64 0, .int .i64 0, .int .i64 0, .int .i64 0, .int .i64 0, .int .i64 0, .slice none 0 0]) := by have h := Bx.new y1 32 [.int .i64 0, .int .i64 0, .slice none 0 0, .slice none 0 0, .slice none 0 0, .slice none 0 0, .int .i64 0, .int .i64 0, .int .i64 0, .int .i64 0, .int .i64 0, .int .i64 0, .int .i64 0, .int .i64 0, .int .i64 0, .slice none 0 0]; rw [show y1.heap.size = y1.heap.size by simp] at h; exact h
      have zq : w2.heap.size ≤ y1.heap.size := by have h := c.size; rw [show y1.heap.size = y1.heap.size by simp] at h; exact h
      have c : Below w2.heap.size w2 (y1.alloc (.cells #[.int .i64 0, .int .i64 0, .slice none 0 0, .slice none 0 0, .slice none 0 0, .slice none 0 0, .int .i64 0, .int .i64 0, .int .i64 0, .int .i64 0, .int .i64 0, .int .i64 0, .int .i64 0, .int .i64 0, .int .i64 0, .slice none 0 0] 32)) := c.alloc c.size _
      have OM : Hid (OwnI (y1.alloc (.cells #[.int .i64 0, .int .i64 0, .slice none 0 0, .slice none 0 0, .slice none 0 0, .slice none 0 0, .int .i64 0, .int .i64 0, .int .i64 0, .int .i64 0, .int .i64 0, .int .i64 0, .int .i64 0, .int .i64 0, .int .i64 0, .slice none 0 0] 32)) w2.heap.size (.slice um.a um.n um.c) ms) := OM.out.alloc _
      refine hK.out _ _ (KEEP.out _ c) (fun hHeld => ?_)
      clear hK K
      try simp only [Act.put, List.getElem_toArray, List.getElem_cons_zero, List.getElem_cons_succ, List.setIfInBounds_toArray, List.set_cons_zero, List.set_cons_succ]
      refine wpAnyH_ready (rs := [10]) (by kernel_rfl) (by simp) ?_
      refine AllReadyH.cons (i := 10) rfl (fun K hK => ?_) AllReadyH.nil
      rw [if_pos (by rfl)]
      simp only [List.getElem_toArray, List.getElem_cons_zero, List.getElem_cons_succ]
      refine wp_stB 32 _ _ rfl (y1.heap.size) 0 (by rfl) 32 _ BX2.out [.int .i64 d, .int .i64 i, .slice um.a um.n um.c, .slice none 0 0, .slice none 0 0, .slice none 0 0, .int .i64 0, .int .i64 0, .int .i64 0, .int .i64 0, .int .i64 0, .int .i64 0, .int .i64 0, .int .i64 0, .int .i64 0, .slice none 0 0] (by rfl) (by simp) Try.sizeM rfl [.int .i64 d, .int .i64 i, .slice um.a um.n um.c, .slice none 0 0, .slice none 0 0, .slice none 0 0, .int .i64 0, .int .i64 0, .int .i64 0, .int .i64 0, .int .i64 0, .int .i64 0, .int .i64 0, .int .i64 0, .int .i64 0, .slice none 0 0] rfl ?_
      intro y3 RB3 TB3
      have OM := OM.out.past BX2.out TB3 (by decide)
      have c : Below w2.heap.size w2 y3 := c.trans (TB3.below zq)
      refine hK.out _ _ (KEEP.out _ c) (fun hHeld => ?_)
      clear hK K
      try simp only [Act.put, List.getElem_toArray, List.getElem_cons_zero, List.getElem_cons_succ, List.setIfInBounds_toArray, List.set_cons_zero, List.set_cons_succ]
      refine wpAnyH_take (i := 11) (v := ?v11b9) rfl (by kernel_rfl) (by kernel_rfl) (by kernel_rfl) (fun _ _ _ h => h) (Or.inl ⟨by rfl, ?hy11b9⟩) (by assumption) ?_
      case hy11b9 => (intro w hSw; (try dsimp only at hSw); simp only [List.getElem_toArray, List.getElem_cons_zero, List.getElem_cons_succ]; go_simp; try with_reducible rfl)
      try simp only [Act.put, List.getElem_toArray, List.getElem_cons_zero, List.getElem_cons_succ, List.setIfInBounds_toArray, List.set_cons_zero, List.set_cons_succ]
      refine wpAnyH_done (by kernel_rfl) ?_ _
      try go_wp2_with fail
      go_meet
      exact ⟨_, um, rfl, rfl, RB3, OM, zq, c⟩
    · skip
      rw [if_pos (by rfl)]
      simp only [List.getElem_toArray, List.getElem_cons_zero, List.getElem_cons_succ]
      go_simp
      have BX1 : Hid (Bx (w2.drew.alloc (.cells #[.int .i64 0, .int .i64 0, .slice none 0 0, .slice none 0 0, .slice none 0 0, .slice none 0 0, .int .i64 0, .int .i64 0, .int .i64 0, .int .i64 0, .int .i64 0, .int .i64 0, .int .i64 0, .int .i64 0, .int .i64 0, .slice none 0 0] 32)) w2.heap.size 32 [.int .i64 0, .int .i64 0, .slice none 0 0, .slice none 0 0, .slice none 0 0, .slice none 0 0, .int .i64 0, .int .i64 0, .int .i64 0, .int .i64 0, .int .i64 0, .int .i64 0, .int .i64 0, .int .i64 0, .int .i64 0, .slice none 0 0]) := by have h := Bx.new w2.drew 32 [.int .i64 0, .int .i64 0, .slice none 0 0, .slice none 0 0, .slice none 0 0, .slice none 0 0, .int .i64 0, .int .i64 0, .int .i64 0, .int .i64 0, .int .i64 0, .int .i64 0, .int .i64 0, .int .i64 0, .int .i64 0, .slice none 0 0]; rw [show w2.drew.heap.size = w2.heap.size by simp] at h; exact h
      have zq : w2.heap.size ≤ w2.heap.size := by have h := c.size; rw [show w2.drew.heap.size = w2.heap.size by simp] at h; exact h
      have c : Below w2.heap.size w2 (w2.drew.alloc (.cells #[.int .i64 0, .int .i64 0, .slice none 0 0, .slice none 0 0, .slice none 0 0, .slice none 0 0, .int .i64 0, .int .i64 0, .int .i64 0, .int .i64 0, .int .i64 0, .int .i64 0, .int .i64 0, .int .i64 0, .int .i64 0, .slice none 0 0] 32)) := c.alloc c.size _
      refine hK.out _ _ (KEEP.out _ c) (fun hHeld => ?_)
      clear hK K
      try simp only [Act.put, List.getElem_toArray, List.getElem_cons_zero, List.getElem_cons_succ, List.setIfInBounds_toArray, List.set_cons_zero, List.set_cons_succ]
      refine wpAnyH_ready (rs := [5]) (by kernel_rfl) (by simp) ?_
      refine AllReadyH.cons (i := 5) rfl (fun K hK => ?_) AllReadyH.nil
      rw [if_pos (by rfl)]
      simp only [List.getElem_toArray, List.getElem_cons_zero, List.getElem_cons_succ]
      go_simp
      refine (mateNew_yes d i ⟨some ⟨sb, so, none⟩, nm, cv⟩ ms _ (show Hid (RI (w2.drew.alloc (.cells #[.int .i64 0, .int .i64 0, .slice none 0 0, .slice none 0 0, .slice none 0 0, .slice none 0 0, .int .i64 0, .int .i64 0, .int .i64 0, .int .i64 0, .int .i64 0, .int .i64 0, .int .i64 0, .int .i64 0, .int .i64 0, .slice none 0 0] 32)) (.slice (some ⟨sb, so, none⟩) nm cv) ms) from V1.out.ri.stays c) hm5 HIN).mono ?_
      rintro e y2 ⟨um, rfl, om, b⟩
      have zc : w2.heap.size ≤ (w2.drew.alloc (.cells #[.int .i64 0, .int .i64 0, .slice none 0 0, .slice none 0 0, .slice none 0 0, .slice none 0 0, .int .i64 0, .int .i64 0, .int .i64 0, .int .i64 0, .int .i64 0, .int .i64 0, .int .i64 0, .int .i64 0, .int .i64 0, .slice none 0 0] 32)).heap.size := c.size
      have BX1 : Hid (Bx y2 w2.heap.size 32 [.int .i64 0, .int .i64 0, .slice none 0 0, .slice none 0 0, .slice none 0 0, .slice none 0 0, .int .i64 0, .int .i64 0, .int .i64 0, .int .i64 0, .int .i64 0, .int .i64 0, .int .i64 0, .int .i64 0, .int .i64 0, .slice none 0 0]) := BX1.out.later b
      have OM : Hid (OwnI y2 w2.heap.size (.slice um.a um.n um.c) ms) := om.down zc
      have c : Below w2.heap.size w2 y2 := bl_next c b
      refine hK.out _ _ (KEEP.out _ c) (fun hHeld => ?_)
      clear hK K
      try simp only [Act.put, List.getElem_toArray, List.getElem_cons_zero, List.getElem_cons_succ, List.setIfInBounds_toArray, List.set_cons_zero, List.set_cons_succ]
      clear b zc
      refine wpAnyH_take (i := 6) (v := ?v6b10) rfl (by kernel_rfl) (by kernel_rfl) (by kernel_rfl) (fun _ _ _ h => h) (Or.inl ⟨by rfl, ?hy6b10⟩) (by assumption) ?_
      case hy6b10 => (intro w hSw; (try dsimp only at hSw); simp only [List.getElem_toArray, List.getElem_cons_zero, List.getElem_cons_succ]; go_simp; try with_reducible rfl)
      try simp only [Act.put, List.getElem_toArray, List.getElem_cons_zero, List.getElem_cons_succ, List.setIfInBounds_toArray, List.set_cons_zero, List.set_cons_succ]
      refine wpAnyH_take (i := 7) (v := ?v7b11) rfl (by kernel_rfl) (by kernel_rfl) (by kernel_rfl) (fun _ _ _ h => h) (Or.inl ⟨by rfl, ?hy7b11⟩) (by assumption) ?_
      case hy7b11 => (intro w hSw; (try dsimp only at hSw); simp only [List.getElem_toArray, List.getElem_cons_zero, List.getElem_cons_succ]; go_simp; try with_reducible rfl)
      try simp only [Act.put, List.getElem_toArray, List.getElem_cons_zero, List.getElem_cons_succ, List.setIfInBounds_toArray, List.set_cons_zero, List.set_cons_succ]
      refine wpAnyH_take (i := 8) (v := ?v8b12) rfl (by kernel_rfl) (by kernel_rfl) (by kernel_rfl) (fun _ _ _ h => h) (Or.inl ⟨by rfl, ?hy8b12⟩) (by assumption) ?_
      case hy8b12 => (intro w hSw; (try dsimp only at hSw); simp only [List.getElem_toArray, List.getElem_cons_zero, List.getElem_cons_succ]; go_simp; try with_reducible rfl)
      try simp only [Act.put, List.getElem_toArray, List.getElem_cons_zero, List.getElem_cons_succ, List.setIfInBounds_toArray, List.set_cons_zero, List.set_cons_succ]
      refine wpAnyH_ready (rs := [10]) (by kernel_rfl) (by simp) ?_
      refine AllReadyH.cons (i := 10) rfl (fun K hK => ?_) AllReadyH.nil
      rw [if_pos (by rfl)]
      simp only [List.getElem_toArray, List.getElem_cons_zero, List.getElem_cons_succ]
      refine wp_stB 32 _ _ rfl (w2.heap.size) 0 (by rfl) 32 _ BX1.out [.int .i64 d, .int .i64 i, .slice um.a um.n um.c, .slice none 0 0, .slice none 0 0, .slice none 0 0, .int .i64 0, .int .i64 0, .int .i64 0, .int .i64 0, .int .i64 0, .int .i64 0, .int .i64 0, .int .i64 0, .int .i64 0, .slice none 0 0] (by rfl) (by simp) Try.sizeM rfl [.int .i64 d, .int .i64 i, .slice um.a um.n um.c, .slice none 0 0, .slice none 0 0, .slice none 0 0, .int .i64 0, .int .i64 0, .int .i64 0, .int .i64 0, .int .i64 0, .int .i64 0, .int .i64 0, .int .i64 0, .int .i64 0, .slice none 0 0] rfl ?_
      intro y3 RB3 TB3
      have OM := OM.out.past BX1.out TB3 (by decide)
      have c : Below w2.heap.size w2 y3 := c.trans (TB3.below zq)
      refine hK.out _ _ (KEEP.out _ c) (fun hHeld => ?_)
      clear hK K
      try simp only [Act.put, List.getElem_toArray, List.getElem_cons_zero, List.getElem_cons_succ, List.setIfInBounds_toArray, List.set_cons_zero, List.set_cons_succ]
      refine wpAnyH_take (i := 11) (v := ?v11b13) rfl (by kernel_rfl) (by kernel_rfl) (by kernel_rfl) (fun _ _ _ h => h) (Or.inl ⟨by rfl, ?hy11b13⟩) (by assumption) ?_
      case hy11b13 => (intro w hSw; (try dsimp only at hSw); simp only [List.getElem_toArray, List.getElem_cons_zero, List.getElem_cons_succ]; go_simp; try with_reducible rfl)
      try simp only [Act.put, List.getElem_toArray, List.getElem_cons_zero, List.getElem_cons_succ, List.setIfInBounds_toArray, List.set_cons_zero, List.set_cons_succ]
      refine wpAnyH_done (by kernel_rfl) ?_ _
      try go_wp2_with fail
      go_meet
      exact ⟨_, um, rfl, rfl, RB3, OM, zq, c⟩
  case rest =>
  obtain ⟨gm, um, rfl, rfl, hbm, hom, zgm, b3⟩ := hcut
  generalize wc = w3 at *
  have zwm : w.heap.size ≤ gm := by have := BW.out.size; omega
  clear hcl n0
  have R1 : Hid (Bx w3 gr 26 [.int .i64 i, .slice (some ⟨sb, so, none⟩) nm cv]) := R1.out.later b3
  have V1 : Hid (OwnI w3 0 (.slice (some ⟨sb, so, none⟩) nm cv) (ms)) := V1.out.keep fun _ _ hk => b3.block _ hk
  have BW : Hid (Below w.heap.size w w3) := bl_next BW.out b3
  have WD : Hid (OwnS w3 0 (.slice swa nw swc) (ts)) := WD.out.keep' fun _ _ hk => b3.block _ hk
  have GM : Hid (Bx w3 gm 32 [.int .i64 d, .int .i64 i, .slice um.a um.n um.c, .slice none 0 0, .slice none 0 0, .slice none 0 0, .int .i64 0, .int .i64 0, .int .i64 0, .int .i64 0, .int .i64 0, .int .i64 0, .int .i64 0, .int .i64 0, .int .i64 0, .slice none 0 0]) := hbm
  have MM : Hid (MtP w3 (sayK d i ms ts 0) ⟨um, zSv, zSv, zSv, zSv⟩) := (mto_new d i hom).p
  have zgr : gr < gm := by have := R1.out.lt; have h2 := R12.out; omega
  clear hbm hom b3
  have SHH : Hid (SH d i ms ts) := ⟨HRG.out, HDM.out, by have := HNW.out; omega, fun t ht => by have := HSH.out t ht; omega⟩
  go_wp2_with fail
  go_loopw [7, 8] (fun v7 v8 wr => ∃ (k : Nat) (u : Mv), k ≤ nw ∧ v7 = .int .i64 k ∧ v8 = .int .i64 k ∧ Hid (Bx wr gm 32 [.int .i64 d, .int .i64 i, .slice u.ms.a u.ms.n u.ms.c, .slice u.its.a u.its.n u.its.c, .slice u.lv.a u.lv.n u.lv.c, .slice u.tx.a u.tx.n u.tx.c, .int .i64 0, .int .i64 0, .int .i64 0, .int .i64 0, .int .i64 0, .int .i64 0, .int .i64 0, .int .i64 0, .int .i64 0, .slice u.ws.a u.ws.n u.ws.c]) ∧ Hid (MtP wr (sayK d i ms ts k) u) ∧ Hid (Bx wr gr 26 [.int .i64 i, .slice (some ⟨sb, so, none⟩) nm cv]) ∧ Hid (OwnI wr 0 (.slice (some ⟨sb, so, none⟩) nm cv) (ms)) ∧ Hid (OwnS wr 0 (.slice swa nw swc) (ts)) ∧ Hid (Below w.heap.size w wr)) (fun _ v8 _ => nw - (intOf v8).toNat)
  case atStart => exact ⟨0, ⟨um, zSv, zSv, zSv, zSv⟩, by omega, rfl, rfl, GM, MM, R1, V1, WD, BW⟩
  case round =>
    clear GM MM R1 V1 WD BW
    obtain ⟨k, u, hk, rfl, rfl, GM, MM, R1, V1, WD, BW⟩ := hrel
    by_cases hlt : k < nw
    · have hkt : k < ts.length := by rw [← HNW.out]; exact hlt
      obtain ⟨ta, tc, te, tx0⟩ := WD.out.texts
      obtain ⟨wb, wo, ew, hwb, hwc⟩ := tx0 k hkt
      simp only [Value.slice.injEq] at te
      rw [← te.1] at ew
      subst ew
      have HX : Hid (∃ x, x = ts[k]) := ⟨_, rfl⟩
      obtain ⟨x, hx⟩ := HX.out
      rw [← hx] at hwc
      have hxs : x.size ≤ 60 := by rw [hx]; exact SHH.out.sz _ (List.getElem_mem hkt)
      have HSK : Hid (sayM (sayK d i ms ts k) 1 x = sayK d i ms ts (k + 1)) := (by unfold sayM sayK; simp only [Mt.mk.injEq, true_and, and_true]; exact ⟨by rw [← List.replicate_succ'], by rw [hx, List.take_succ_eq_append_getElem hkt]⟩ : sayM (sayK d i ms ts k) 1 x = sayK d i ms ts (k + 1))
      have HMS : Hid (MtS (sayK d i ms ts k)) := sayK_s SHH.out (by omega)
      have HOK : Hid (sayOk (sayK d i ms ts k) 1 x = true) := sayK_ok SHH.out (by omega) (by omega) hxs
      have i0 : (0 : Int) ≤ (k : Int) := by omega
      have i1 : (k : Int) < (nw : Int) := by omega
      have i2 : (k : Int) < 9 := by omega
      clear te tx0 hx HX
      go_wp2_with fail
      go_cut [9, 10] (fun u9 u10 wx => ∃ (gx : Nat) (uy : Mv), u9 = .pointer (some ⟨gx, 0, none⟩) ∧ u10 = .bool true ∧ Bx wx gx 32 [.int .i64 d, .int .i64 i, .slice uy.ms.a uy.ms.n uy.ms.c, .slice uy.its.a uy.its.n uy.its.c, .slice uy.lv.a uy.lv.n uy.lv.c, .slice uy.tx.a uy.tx.n uy.tx.c, .int .i64 0, .int .i64 0, .int .i64 0, .int .i64 0, .int .i64 0, .int .i64 0, .int .i64 0, .int .i64 0, .int .i64 0, .slice uy.ws.a uy.ws.n uy.ws.c] ∧ MtP wx (sayK d i ms ts (k + 1)) uy ∧ wr.heap.size ≤ gx ∧ Below wr.heap.size wr wx)
      case first =>
        have KEEP : Hid (∀ w', Below wr.heap.size wr w' → w'.cell? ⟨wb, wo + k, none⟩ = some (.string x) ∧ Hid (Below wr.heap.size wr w')) := fun w' hb => ⟨(hb.cell (p := ⟨wb, wo + k, none⟩) hwb).trans hwc, hb⟩
        have c : Below wr.heap.size wr wr.drew := (Below.refl _ _).drew
        refine wp_region_held_drew (S := fun w' => w'.cell? ⟨wb, wo + k, none⟩ = some (.string x) ∧ Hid (Below wr.heap.size wr w')) (by kernel_rfl) (KEEP.out _ c) (fun hHeld => ?_)
        refine wpAnyH_take (i := 0) (v := _) rfl (by kernel_rfl) (by kernel_rfl) (by kernel_rfl) (fun _ _ _ h => h) (ld_yield (by rfl) 32 _ rfl gm 0 rfl 32 _ (fun w hS => GM.out.later hS.2.out) [.int .i64 d, .int .i64 i, .slice u.ms.a u.ms.n u.ms.c, .slice u.its.a u.its.n u.its.c, .slice u.lv.a u.lv.n u.lv.c, .slice u.tx.a u.tx.n u.tx.c, .int .i64 0, .int .i64 0, .int .i64 0, .int .i64 0, .int .i64 0, .int .i64 0, .int .i64 0, .int .i64 0, .int .i64 0, .slice u.ws.a u.ws.n u.ws.c] rfl _ Try.underlying32 rfl Try.sizeM) (by assumption) ?_
        try simp only [Act.put, List.getElem_toArray, List.getElem_cons_zero, List.getElem_cons_succ, List.setIfInBounds_toArray, List.set_cons_zero, List.set_cons_succ]
        refine wpAnyH_take (i := 1) (v := ?v1b15) rfl (by kernel_rfl) (by kernel_rfl) (by kernel_rfl) (fun _ _ _ h => h) (Or.inl ⟨by rfl, ?hy1b15⟩) (by assumption) ?_
        case hy1b15 => (intro w hSw; (try dsimp only at hSw); simp only [List.getElem_toArray, List.getElem_cons_zero, List.getElem_cons_succ]; go_simp; try with_reducible rfl)
        try simp only [Act.put, List.getElem_toArray, List.getElem_cons_zero, List.getElem_cons_succ, List.setIfInBounds_toArray, List.set_cons_zero, List.set_cons_succ]
        refine wpAnyH_take (i := 2) (v := ?v2b16) rfl (by kernel_rfl) (by kernel_rfl) (by kernel_rfl) (fun _ _ _ h => h) (Or.inl ⟨by rfl, ?hy2b16⟩) (by assumption) ?_
        case hy2b16 => (intro w hSw; (try dsimp only at hSw); simp only [List.getElem_toArray, List.getElem_cons_zero, List.getElem_cons_succ]; go_simp; try with_reducible rfl)
        try simp only [Act.put, List.getElem_toArray, List.getElem_cons_zero, List.getElem_cons_succ, List.setIfInBounds_toArray, List.set_cons_zero, List.set_cons_succ]
        refine wpAnyH_take (i := 3) (v := ?v3b17) rfl (by kernel_rfl) (by kernel_rfl) (by kernel_rfl) (fun _ _ _ h => h) (Or.inl ⟨by rfl, ?hy3b17⟩) (by assumption) ?_
        case hy3b17 => (intro w hSw; (try dsimp only at hSw); simp only [List.getElem_toArray, List.getElem_cons_zero, List.getElem_cons_succ]; go_simp; try with_reducible rfl)
        try simp only [Act.put, List.getElem_toArray, List.getElem_cons_zero, List.getElem_cons_succ, List.setIfInBounds_toArray, List.set_cons_zero, List.set_cons_succ]
        refine wpAnyH_take (i := 4) (v := ?v4b18) rfl (by kernel_rfl) (by kernel_rfl) (by kernel_rfl) (fun _ _ _ h => h) (Or.inl ⟨by rfl, ?hy4b18⟩) (by assumption) ?_
        case hy4b18 => (intro w hSw; (try dsimp only at hSw); simp only [List.getElem_toArray, List.getElem_cons_zero, List.getElem_cons_succ]; go_simp; try with_reducible rfl)
        try simp only [Act.put, List.getElem_toArray, List.getElem_cons_zero, List.getElem_cons_succ, List.setIfInBounds_toArray, List.set_cons_zero, List.set_cons_succ]
        refine wpAnyH_ready (rs := [5, 9]) (by kernel_rfl) (by simp) ?_
        refine (AllReadyH.cons (i := 5) rfl (fun K hK => ?_) (AllReadyH.cons (i := 9) rfl (fun K hK => ?_) AllReadyH.nil))
        · skip
          rw [if_pos (by rfl)]
          simp only [List.getElem_toArray, List.getElem_cons_zero, List.getElem_cons_succ]
          go_simp
          refine (say_yes (sayK d i ms ts k) u 1 x _ (show Hid (MtP wr.drew (sayK d i ms ts k) u) from MM.out.later c) HMS (by omega) HOK).mono ?_
          rintro e y1 ⟨uy, rfl, om, b⟩
          have zc : wr.heap.size ≤ wr.drew.heap.size := c.size
          have OM : Hid (MtP y1 (sayK d i ms ts (k + 1)) uy) := by have h := om.p; rw [HSK.out] at h; exact h
          have c : Below wr.heap.size wr y1 := bl_next c b
          refine hK.out _ _ (KEEP.out _ c) (fun hHeld => ?_)
          clear hK K
          try simp only [Act.put, List.getElem_toArray, List.getElem_cons_zero, List.getElem_cons_succ, List.setIfInBounds_toArray, List.set_cons_zero, List.set_cons_succ]
          clear b zc
          refine wpAnyH_take (i := 6) (v := ?v6b19) rfl (by kernel_rfl) (by kernel_rfl) (by kernel_rfl) (fun _ _ _ h => h) (Or.inl ⟨by rfl, ?hy6b19⟩) (by assumption) ?_
          case hy6b19 => (intro w hSw; (try dsimp only at hSw); simp only [List.getElem_toArray, List.getElem_cons_zero, List.getElem_cons_succ]; go_simp; try with_reducible rfl)
          try simp only [Act.put, List.getElem_toArray, List.getElem_cons_zero, List.getElem_cons_succ, List.setIfInBounds_toArray, List.set_cons_zero, List.set_cons_succ]
          refine wpAnyH_take (i := 7) (v := ?v7b20) rfl (by kernel_rfl) (by kernel_rfl) (by kernel_rfl) (fun _ _ _ h => h) (Or.inl ⟨by rfl, ?hy7b20⟩) (by assumption) ?_
          case hy7b20 => (intro w hSw; (try dsimp only at hSw); simp only [List.getElem_toArray, List.getElem_cons_zero, List.getElem_cons_succ]; go_simp; try with_reducible rfl)
          try simp only [Act.put, List.getElem_toArray, List.getElem_cons_zero, List.getElem_cons_succ, List.setIfInBounds_toArray, List.set_cons_zero, List.set_cons_succ]
          refine wpAnyH_take (i := 8) (v := ?v8b21) rfl (by kernel_rfl) (by kernel_rfl) (by kernel_rfl) (fun _ _ _ h => h) (Or.inl ⟨by rfl, ?hy8b21⟩) (by assumption) ?_
          case hy8b21 => (intro w hSw; (try dsimp only at hSw); simp only [List.getElem_toArray, List.getElem_cons_zero, List.getElem_cons_succ]; go_simp; try with_reducible rfl)
          try simp only [Act.put, List.getElem_toArray, List.getElem_cons_zero, List.getElem_cons_succ, List.setIfInBounds_toArray, List.set_cons_zero, List.set_cons_succ]
          refine wpAnyH_ready (rs := [9]) (by kernel_rfl) (by simp) ?_
          refine AllReadyH.cons (i := 9) rfl (fun K hK => ?_) AllReadyH.nil
          rw [if_pos (by rfl)]
          simp only [List.getElem_toArray, List.getElem_cons_zero, List.getElem_cons_succ]
          go_simp
          have BX2 : Hid (Bx (y1.alloc (.cells #[.int .i64 0, .int .i64 0, .slice none 0 0, .slice none 0 0, .slice none 0 0, .slice none 0 0, .int .i64 0, .int .i64 0, .int .i64 0, .int .i64 0, .int .i64 0, .int .i64 0, .int .i64 0, .int .i64 0, .int .i64 0, .slice none 0 0] 32)) y1.heap.size 32 [.int .i64 0, .int .i64 0, .slice none 0 0, .slice none 0 0, .slice none 0 0, .slice none 0 0, .int .i64 0, .int .i64 0, .int .i64 0, .int .i64 0, .int .i64 0, .int .i64 0, .int .i64 0, .int .i64 0, .int .i64 0, .slice none 0 0]) := by have h := Bx.new y1 32 [.int .i64 0, .int .i64 0, .slice none 0 0, .slice none 0 0, .slice none 0 0, .slice none 0 0, .int .i64 0, .int .i64 0, .int .i64 0, .int .i64 0, .int .i64 0, .int .i64 0, .int .i64 0, .int .i64 0, .int .i64 0, .slice none 0 0]; rw [show y1.heap.size = y1.heap.size by simp] at h; exact h
          have zq : wr.heap.size ≤ y1.heap.size := by have h := c.size; rw [show y1.heap.size = y1.heap.size by simp] at h; exact h
          have c : Below wr.heap.size wr (y1.alloc (.cells #[.int .i64 0, .int .i64 0, .slice none 0 0, .slice none 0 0, .slice none 0 0, .slice none 0 0, .int .i64 0, .int .i64 0, .int .i64 0, .int .i64 0, .int .i64 0, .int .i64 0, .int .i64 0, .int .i64 0, .int .i64 0, .slice none 0 0] 32)) := c.alloc c.size _
          have OM : Hid (MtP (y1.alloc (.cells #[.int .i64 0, .int .i64 0, .slice none 0 0, .slice none 0 0, .slice none 0 0, .slice none 0 0, .int .i64 0, .int .i64 0, .int .i64 0, .int .i64 0, .int .i64 0, .int .i64 0, .int .i64 0, .int .i64 0, .int .i64 0, .slice none 0 0] 32)) (sayK d i ms ts (k + 1)) uy) := OM.out.later ((Below.refl _ _).alloc (Nat.le_refl _) _)
          refine hK.out _ _ (KEEP.out _ c) (fun hHeld => ?_)
          clear hK K
          try simp only [Act.put, List.getElem_toArray, List.getElem_cons_zero, List.getElem_cons_succ, List.setIfInBounds_toArray, List.set_cons_zero, List.set_cons_succ]
          refine wpAnyH_ready (rs := [10]) (by kernel_rfl) (by simp) ?_
          refine AllReadyH.cons (i := 10) rfl (fun K hK => ?_) AllReadyH.nil
          rw [if_pos (by rfl)]
          simp only [List.getElem_toArray, List.getElem_cons_zero, List.getElem_cons_succ]
          refine wp_stB 32 _ _ rfl (y1.heap.size) 0 (by rfl) 32 _ BX2.out [.int .i64 d, .int .i64 i, .slice uy.ms.a uy.ms.n uy.ms.c, .slice uy.its.a uy.its.n uy.its.c, .slice uy.lv.a uy.lv.n uy.lv.c, .slice uy.tx.a uy.tx.n uy.tx.c, .int .i64 0, .int .i64 0, .int .i64 0, .int .i64 0, .int .i64 0, .int .i64 0, .int .i64 0, .int .i64 0, .int .i64 0, .slice uy.ws.a uy.ws.n uy.ws.c] (by rfl) (by simp) Try.sizeM rfl [.int .i64 d, .int .i64 i, .slice uy.ms.a uy.ms.n uy.ms.c, .slice uy.its.a uy.its.n uy.its.c, .slice uy.lv.a uy.lv.n uy.lv.c, .slice uy.tx.a uy.tx.n uy.tx.c, .int .i64 0, .int .i64 0, .int .i64 0, .int .i64 0, .int .i64 0, .int .i64 0, .int .i64 0, .int .i64 0, .int .i64 0, .slice uy.ws.a uy.ws.n uy.ws.c] rfl ?_
          intro y3 RB3 TB3
          have OM := OM.out.kt (KeepTy.ofTurn (S := fun X => X = 32) BX2.out TB3 rfl) (by decide) (by decide) (by decide)
          have c : Below wr.heap.size wr y3 := c.trans (TB3.below zq)
          refine hK.out _ _ (KEEP.out _ c) (fun hHeld => ?_)
          clear hK K
          try simp only [Act.put, List.getElem_toArray, List.getElem_cons_zero, List.getElem_cons_succ, List.setIfInBounds_toArray, List.set_cons_zero, List.set_cons_succ]
          refine wpAnyH_take (i := 11) (v := ?v11b22) rfl (by kernel_rfl) (by kernel_rfl) (by kernel_rfl) (fun _ _ _ h => h) (Or.inl ⟨by rfl, ?hy11b22⟩) (by assumption) ?_
          case hy11b22 => (intro w hSw; (try dsimp only at hSw); simp only [List.getElem_toArray, List.getElem_cons_zero, List.getElem_cons_succ]; go_simp; try with_reducible rfl)
          try simp only [Act.put, List.getElem_toArray, List.getElem_cons_zero, List.getElem_cons_succ, List.setIfInBounds_toArray, List.set_cons_zero, List.set_cons_succ]
          refine wpAnyH_done (by kernel_rfl) ?_ _
          try go_wp2_with fail
          go_meet
          exact ⟨_, uy, rfl, rfl, RB3, OM, zq, c⟩
        · skip
          rw [if_pos (by rfl)]
          simp only [List.getElem_toArray, List.getElem_cons_zero, List.getElem_cons_succ]
          go_simp
          have BX1 : Hid (Bx (wr.drew.alloc (.cells #[.int .i64 0, .int .i64 0, .slice none 0 0, .slice none 0 0, .slice none 0 0, .slice none 0 0, .int .i64 0, .int .i64 0, .int .i64 0, .int .i64 0, .int .i64 0, .int .i64 0, .int .i64 0, .int .i64 0, .int .i64 0, .slice none 0 0] 32)) wr.heap.size 32 [.int .i64 0, .int .i64 0, .slice none 0 0, .slice none 0 0, .slice none 0 0, .slice none 0 0, .int .i64 0, .int .i64 0, .int .i64 0, .int .i64 0, .int .i64 0, .int .i64 0, .int .i64 0, .int .i64 0, .int .i64 0, .slice none 0 0]) := by have h := Bx.new wr.drew 32 [.int .i64 0, .int .i64 0, .slice none 0 0, .slice none 0 0, .slice none 0 0, .slice none 0 0, .int .i64 0, .int .i64 0, .int .i64 0, .int .i64 0, .int .i64 0, .int .i64 0, .int .i64 0, .int .i64 0, .int .i64 0, .slice none 0 0]; rw [show wr.drew.heap.size = wr.heap.size by simp] at h; exact h
          have zq : wr.heap.size ≤ wr.heap.size := by have h := c.size; rw [show wr.drew.heap.size = wr.heap.size by simp] at h; exact h
          have c : Below wr.heap.size wr (wr.drew.alloc (.cells #[.int .i64 0, .int .i64 0, .slice none 0 0, .slice none 0 0, .slice none 0 0, .slice none 0 0, .int .i64 0, .int .i64 0, .int .i64 0, .int .i64 0, .int .i64 0, .int .i64 0, .int .i64 0, .int .i64 0, .int .i64 0, .slice none 0 0] 32)) := c.alloc c.size _
          refine hK.out _ _ (KEEP.out _ c) (fun hHeld => ?_)
          clear hK K
          try simp only [Act.put, List.getElem_toArray, List.getElem_cons_zero, List.getElem_cons_succ, List.setIfInBounds_toArray, List.set_cons_zero, List.set_cons_succ]
          refine wpAnyH_ready (rs := [5]) (by kernel_rfl) (by simp) ?_
          refine AllReadyH.cons (i := 5) rfl (fun K hK => ?_) AllReadyH.nil
          rw [if_pos (by rfl)]
          simp only [List.getElem_toArray, List.getElem_cons_zero, List.getElem_cons_succ]
          go_simp
          refine (say_yes (sayK d i ms ts k) u 1 x _ (show Hid (MtP (wr.drew.alloc (.cells #[.int .i64 0, .int .i64 0, .slice none 0 0, .slice none 0 0, .slice none 0 0, .slice none 0 0, .int .i64 0, .int .i64 0, .int .i64 0, .int .i64 0, .int .i64 0, .int .i64 0, .int .i64 0, .int .i64 0, .int .i64 0, .slice none 0 0] 32)) (sayK d i ms ts k) u) from MM.out.later c) HMS (by omega) HOK).mono ?_
          rintro e y2 ⟨uy, rfl, om, b⟩
          have zc : wr.heap.size ≤ (wr.drew.alloc (.cells #[.int .i64 0, .int .i64 0, .slice none 0 0, .slice none 0 0, .slice none 0 0, .slice none 0 0, .int .i64 0, .int .i64 0, .int .i64 0, .int .i64 0, .int .i64 0, .int .i64 0, .int .i64 0, .int .i64 0, .int .i64 0, .slice none 0 0] 32)).heap.size := c.size
          have BX1 : Hid (Bx y2 wr.heap.size 32 [.int .i64 0, .int .i64 0, .slice none 0 0, .slice none 0 0, .slice none 0 0, .slice none 0 0, .int .i64 0, .int .i64 0, .int .i64 0, .int .i64 0, .int .i64 0, .int .i64 0, .int .i64 0, .int .i64 0, .int .i64 0, .slice none 0 0]) := BX1.out.later b
          have OM : Hid (MtP y2 (sayK d i ms ts (k + 1)) uy) := by have h := om.p; rw [HSK.out] at h; exact h
          have c : Below wr.heap.size wr y2 := bl_next c b
          refine hK.out _ _ (KEEP.out _ c) (fun hHeld => ?_)
          clear hK K
          try simp only [Act.put, List.getElem_toArray, List.getElem_cons_zero, List.getElem_cons_succ, List.setIfInBounds_toArray, List.set_cons_zero, List.set_cons_succ]
          clear b zc
          refine wpAnyH_take (i := 6) (v := ?v6b23) rfl (by kernel_rfl) (by kernel_rfl) (by kernel_rfl) (fun _ _ _ h => h) (Or.inl ⟨by rfl, ?hy6b23⟩) (by assumption) ?_
          case hy6b23 => (intro w hSw; (try dsimp only at hSw); simp only [List.getElem_toArray, List.getElem_cons_zero, List.getElem_cons_succ]; go_simp; try with_reducible rfl)
          try simp only [Act.put, List.getElem_toArray, List.getElem_cons_zero, List.getElem_cons_succ, List.setIfInBounds_toArray, List.set_cons_zero, List.set_cons_succ]
          refine wpAnyH_take (i := 7) (v := ?v7b24) rfl (by kernel_rfl) (by kernel_rfl) (by kernel_rfl) (fun _ _ _ h => h) (Or.inl ⟨by rfl, ?hy7b24⟩) (by assumption) ?_
          case hy7b24 => (intro w hSw; (try dsimp only at hSw); simp only [List.getElem_toArray, List.getElem_cons_zero, List.getElem_cons_succ]; go_simp; try with_reducible rfl)
          try simp only [Act.put, List.getElem_toArray, List.getElem_cons_zero, List.getElem_cons_succ, List.setIfInBounds_toArray, List.set_cons_zero, List.set_cons_succ]
          refine wpAnyH_take (i := 8) (v := ?v8b25) rfl (by kernel_rfl) (by kernel_rfl) (by kernel_rfl) (fun _ _ _ h => h) (Or.inl ⟨by rfl, ?hy8b25⟩) (by assumption) ?_
          case hy8b25 => (intro w hSw; (try dsimp only at hSw); simp only [List.getElem_toArray, List.getElem_cons_zero, List.getElem_cons_succ]; go_simp; try with_reducible rfl)
          try simp only [Act.put, List.getElem_toArray, List.getElem_cons_zero, List.getElem_cons_succ, List.setIfInBounds_toArray, List.set_cons_zero, List.set_cons_succ]
          refine wpAnyH_ready (rs := [10]) (by kernel_rfl) (by simp) ?_
          refine AllReadyH.cons (i := 10) rfl (fun K hK => ?_) AllReadyH.nil
          rw [if_pos (by rfl)]
          simp only [List.getElem_toArray, List.getElem_cons_zero, List.getElem_cons_succ]
          refine wp_stB 32 _ _ rfl (wr.heap.size) 0 (by rfl) 32 _ BX1.out [.int .i64 d, .int .i64 i, .slice uy.ms.a uy.ms.n uy.ms.c, .slice uy.its.a uy.its.n uy.its.c, .slice uy.lv.a uy.lv.n uy.lv.c, .slice uy.tx.a uy.tx.n uy.tx.c, .int .i64 0, .int .i64 0, .int .i64 0, .int .i64 0, .int .i64 0, .int .i64 0, .int .i64 0, .int .i64 0, .int .i64 0, .slice uy.ws.a uy.ws.n uy.ws.c] (by rfl) (by simp) Try.sizeM rfl [.int .i64 d, .int .i64 i, .slice uy.ms.a uy.ms.n uy.ms.c, .slice uy.its.a uy.its.n uy.its.c, .slice uy.lv.a uy.lv.n uy.lv.c, .slice uy.tx.a uy.tx.n uy.tx.c, .int .i64 0, .int .i64 0, .int .i64 0, .int .i64 0, .int .i64 0, .int .i64 0, .int .i64 0, .int .i64 0, .int .i64 0, .slice uy.ws.a uy.ws.n uy.ws.c] rfl ?_
          intro y3 RB3 TB3
          have OM := OM.out.kt (KeepTy.ofTurn (S := fun X => X = 32) BX1.out TB3 rfl) (by decide) (by decide) (by decide)
          have c : Below wr.heap.size wr y3 := c.trans (TB3.below zq)
          refine hK.out _ _ (KEEP.out _ c) (fun hHeld => ?_)
          clear hK K
          try simp only [Act.put, List.getElem_toArray, List.getElem_cons_zero, List.getElem_cons_succ, List.setIfInBounds_toArray, List.set_cons_zero, List.set_cons_succ]
          refine wpAnyH_take (i := 11) (v := ?v11b26) rfl (by kernel_rfl) (by kernel_rfl) (by kernel_rfl) (fun _ _ _ h => h) (Or.inl ⟨by rfl, ?hy11b26⟩) (by assumption) ?_
          case hy11b26 => (intro w hSw; (try dsimp only at hSw); simp only [List.getElem_toArray, List.getElem_cons_zero, List.getElem_cons_succ]; go_simp; try with_reducible rfl)
          try simp only [Act.put, List.getElem_toArray, List.getElem_cons_zero, List.getElem_cons_succ, List.setIfInBounds_toArray, List.set_cons_zero, List.set_cons_succ]
          refine wpAnyH_done (by kernel_rfl) ?_ _
          try go_wp2_with fail
          go_meet
          exact ⟨_, uy, rfl, rfl, RB3, OM, zq, c⟩
      case rest =>
      obtain ⟨gx, uy, rfl, rfl, hbx, hmy, zgx, b4⟩ := hcut
      generalize wc = w4 at *
      have zgm4 : gm < wr.heap.size := GM.out.lt
      clear hwc hwb HOK HMS HSK hxs i0 i1 i2
      clear MM
      have R1 : Hid (Bx w4 gr 26 [.int .i64 i, .slice (some ⟨sb, so, none⟩) nm cv]) := R1.out.later b4
      have V1 : Hid (OwnI w4 0 (.slice (some ⟨sb, so, none⟩) nm cv) (ms)) := V1.out.keep fun _ _ hk => b4.block _ hk
      have WD : Hid (OwnS w4 0 (.slice (some ⟨wb, wo, none⟩) nw swc) (ts)) := WD.out.keep' fun _ _ hk => b4.block _ hk
      have BW : Hid (Below w.heap.size w w4) := bl_next BW.out b4
      have GM : Hid (Bx w4 gm 32 [.int .i64 d, .int .i64 i, .slice u.ms.a u.ms.n u.ms.c, .slice u.its.a u.its.n u.its.c, .slice u.lv.a u.lv.n u.lv.c, .slice u.tx.a u.tx.n u.tx.c, .int .i64 0, .int .i64 0, .int .i64 0, .int .i64 0, .int .i64 0, .int .i64 0, .int .i64 0, .int .i64 0, .int .i64 0, .slice u.ws.a u.ws.n u.ws.c]) := GM.out.later b4
      have GX : Hid (Bx w4 gx 32 [.int .i64 d, .int .i64 i, .slice uy.ms.a uy.ms.n uy.ms.c, .slice uy.its.a uy.its.n uy.its.c, .slice uy.lv.a uy.lv.n uy.lv.c, .slice uy.tx.a uy.tx.n uy.tx.c, .int .i64 0, .int .i64 0, .int .i64 0, .int .i64 0, .int .i64 0, .int .i64 0, .int .i64 0, .int .i64 0, .int .i64 0, .slice uy.ws.a uy.ws.n uy.ws.c]) := hbx
      have MY : Hid (MtP w4 (sayK d i ms ts (k + 1)) uy) := hmy
      clear hbx hmy b4
      go_wp2_with (first | (refine wpList_ldG rfl 32 _ rfl gx 0 rfl 32 _ GX.out [.int .i64 d, .int .i64 i, .slice uy.ms.a uy.ms.n uy.ms.c, .slice uy.its.a uy.its.n uy.its.c, .slice uy.lv.a uy.lv.n uy.lv.c, .slice uy.tx.a uy.tx.n uy.tx.c, .int .i64 0, .int .i64 0, .int .i64 0, .int .i64 0, .int .i64 0, .int .i64 0, .int .i64 0, .int .i64 0, .int .i64 0, .slice uy.ws.a uy.ws.n uy.ws.c] rfl _ Try.underlying32 rfl Try.sizeM ?_) | (refine wpList_haltS 32 _ _ rfl ?_))
      refine Stp.go ?_
      refine wpList_stB rfl 32 _ _ rfl gm 0 rfl 32 _ GM.out [.int .i64 d, .int .i64 i, .slice uy.ms.a uy.ms.n uy.ms.c, .slice uy.its.a uy.its.n uy.its.c, .slice uy.lv.a uy.lv.n uy.lv.c, .slice uy.tx.a uy.tx.n uy.tx.c, .int .i64 0, .int .i64 0, .int .i64 0, .int .i64 0, .int .i64 0, .int .i64 0, .int .i64 0, .int .i64 0, .int .i64 0, .slice uy.ws.a uy.ws.n uy.ws.c] rfl (by simp) Try.sizeM rfl [.int .i64 d, .int .i64 i, .slice uy.ms.a uy.ms.n uy.ms.c, .slice uy.its.a uy.its.n uy.its.c, .slice uy.lv.a uy.lv.n uy.lv.c, .slice uy.tx.a uy.tx.n uy.tx.c, .int .i64 0, .int .i64 0, .int .i64 0, .int .i64 0, .int .i64 0, .int .i64 0, .int .i64 0, .int .i64 0, .int .i64 0, .slice uy.ws.a uy.ws.n uy.ws.c] rfl ?_
      intro w5 k5 t5
      clear GX
      have KK : KeepTy (fun X => X = 32) w4 w5 := KeepTy.ofTurn GM.out t5 rfl
      have R1 : Hid (Bx w5 gr 26 [.int .i64 i, .slice (some ⟨sb, so, none⟩) nm cv]) := R1.out.kt KK (by decide)
      have V1 : Hid (OwnI w5 0 (.slice (some ⟨sb, so, none⟩) nm cv) (ms)) := V1.out.kt KK (by decide)
      have WD : Hid (OwnS w5 0 (.slice (some ⟨wb, wo, none⟩) nw swc) (ts)) := WD.out.kt KK (by decide)
      have BW : Hid (Below w.heap.size w w5) := BW.out.trans (t5.below (by omega))
      have MY : Hid (MtP w5 (sayK d i ms ts (k + 1)) uy) := MY.out.kt KK (by decide) (by decide) (by decide)
      clear KK
      have GM : Hid (Bx w5 gm 32 [.int .i64 d, .int .i64 i, .slice uy.ms.a uy.ms.n uy.ms.c, .slice uy.its.a uy.its.n uy.its.c, .slice uy.lv.a uy.lv.n uy.lv.c, .slice uy.tx.a uy.tx.n uy.tx.c, .int .i64 0, .int .i64 0, .int .i64 0, .int .i64 0, .int .i64 0, .int .i64 0, .int .i64 0, .int .i64 0, .int .i64 0, .slice uy.ws.a uy.ws.n uy.ws.c]) := k5
      clear k5 t5
      go_wp2_with fail
      go_roundw
      case rel => exact ⟨k + 1, uy, by omega, by go_num, by go_num, GM, MY, R1, V1, WD, BW⟩
      case measure => simp [intOf]; omega
    · obtain rfl : k = nw := by omega
      have MC : Hid (MtC wr 0 (sayK d i ms ts k) u) := MM.out.c
      clear MM
      clear hlt hk
      have zg0 : gm < wr.heap.size := GM.out.lt
      go_wp2_with (first | (refine wpList_ldG rfl 26 _ rfl gr 0 rfl 26 _ R1.out [.int .i64 i, .slice (some ⟨sb, so, none⟩) nm cv] rfl _ Try.underlying26 rfl Try.sizeR ?_))
      refine (first_r i ms (show Hid (RI wr (.slice (some ⟨sb, so, none⟩) nm cv) ms) from V1.out.ri) hm5 HRG).mono ?_
      rintro e w6 ⟨rfl, b6⟩
      clear R1 V1
      have WD : Hid (OwnS w6 0 (.slice swa k swc) (ts)) := WD.out.keep' fun _ _ hk => b6.block _ hk
      have BW : Hid (Below w.heap.size w w6) := bl_next BW.out b6
      have GM : Hid (Bx w6 gm 32 [.int .i64 d, .int .i64 i, .slice u.ms.a u.ms.n u.ms.c, .slice u.its.a u.its.n u.its.c, .slice u.lv.a u.lv.n u.lv.c, .slice u.tx.a u.tx.n u.tx.c, .int .i64 0, .int .i64 0, .int .i64 0, .int .i64 0, .int .i64 0, .int .i64 0, .int .i64 0, .int .i64 0, .int .i64 0, .slice u.ws.a u.ws.n u.ws.c]) := GM.out.later b6
      have MC : Hid (MtC w6 0 (sayK d i ms ts k) u) := MC.out.later b6
      have zg6 : gm < w6.heap.size := GM.out.lt
      clear b6
      have hz : Hid (Bx (w6.alloc (.cells #[.int .i64 0, .int .i64 0, .int .i64 0, .int .i64 0, .int .i64 0, .slice none 0 0] 30)) w6.heap.size 30 [.int .i64 0, .int .i64 0, .int .i64 0, .int .i64 0, .int .i64 0, .slice none 0 0]) := Bx.new w6 30 _
      go_wp2_with (first | (refine wpList_haltS 30 _ _ rfl ?_))
      refine Stp.go ?_
      refine wpList_stB rfl 30 _ _ rfl w6.heap.size 0 rfl 30 _ hz.out [.int .i64 i, .int .i64 1, .int .i64 0, .int .i64 0, .int .i64 0, .slice none 0 0] rfl (by simp) Try.sizeT rfl [.int .i64 i, .int .i64 1, .int .i64 0, .int .i64 0, .int .i64 0, .slice none 0 0] rfl ?_
      intro w7 kb kt
      have b7 : Below w6.heap.size w6 w7 := ((Below.refl _ _).alloc (Nat.le_refl _) _).trans (kt.below (Nat.le_refl _))
      have WD : Hid (OwnS w7 0 (.slice swa k swc) (ts)) := WD.out.keep' fun _ _ hk => b7.block _ hk
      have BW : Hid (Below w.heap.size w w7) := bl_next BW.out b7
      have GM : Hid (Bx w7 gm 32 [.int .i64 d, .int .i64 i, .slice u.ms.a u.ms.n u.ms.c, .slice u.its.a u.its.n u.its.c, .slice u.lv.a u.lv.n u.lv.c, .slice u.tx.a u.tx.n u.tx.c, .int .i64 0, .int .i64 0, .int .i64 0, .int .i64 0, .int .i64 0, .int .i64 0, .int .i64 0, .int .i64 0, .int .i64 0, .slice u.ws.a u.ws.n u.ws.c]) := GM.out.later b7
      have MC : Hid (MtC w7 0 (sayK d i ms ts k) u) := MC.out.later b7
      have GT : Hid (Bx w7 w6.heap.size 30 [.int .i64 i, .int .i64 1, .int .i64 0, .int .i64 0, .int .i64 0, .slice none 0 0]) := kb
      clear kb kt b7 hz
      generalize w6.heap.size = gt at *
      have zgt : gt < w7.heap.size := GT.out.lt
      have zwt : w.heap.size ≤ gt := by omega
      have b8 : Below w7.heap.size w7 (w7.alloc (.cells #[] 9)) := (Below.refl _ _).alloc (Nat.le_refl _) _
      have GO : Hid (OwnS (w7.alloc (.cells #[] 9)) w7.heap.size (.slice (some ⟨w7.heap.size, 0, none⟩) 0 0) []) := ownS_made w7
      have zwd : Hid (∀ q, (Value.slice swa k swc).ownBlock = some q → q < w7.heap.size) := fun q hq => (WD.out.lt q hq).2
      have WD : Hid (OwnS (w7.alloc (.cells #[] 9)) 0 (.slice swa k swc) (ts)) := WD.out.keep' fun _ _ hk => b8.block _ hk
      have BW : Hid (Below w.heap.size w (w7.alloc (.cells #[] 9))) := bl_next BW.out b8
      have GM : Hid (Bx (w7.alloc (.cells #[] 9)) gm 32 [.int .i64 d, .int .i64 i, .slice u.ms.a u.ms.n u.ms.c, .slice u.its.a u.its.n u.its.c, .slice u.lv.a u.lv.n u.lv.c, .slice u.tx.a u.tx.n u.tx.c, .int .i64 0, .int .i64 0, .int .i64 0, .int .i64 0, .int .i64 0, .int .i64 0, .int .i64 0, .int .i64 0, .int .i64 0, .slice u.ws.a u.ws.n u.ws.c]) := GM.out.later b8
      have MC : Hid (MtC (w7.alloc (.cells #[] 9)) 0 (sayK d i ms ts k) u) := MC.out.later b8
      have GT : Hid (Bx (w7.alloc (.cells #[] 9)) gt 30 [.int .i64 i, .int .i64 1, .int .i64 0, .int .i64 0, .int .i64 0, .slice none 0 0]) := GT.out.later b8
      clear b8
      have SI0 : Hid (SI d i ms ts 0 (sayK d i ms ts k) ⟨i, 1, 0, 0, 0, []⟩) := sayK_si SHH.out (HNW.out)
      go_wp2_with fail
      have ZGB : Hid (w7.heap.size ≤ (w7.alloc (.cells #[] 9)).heap.size) := (by simp : w7.heap.size ≤ (w7.alloc (.cells #[] 9)).heap.size)
      generalize w7.alloc (.cells #[] 9) = W8 at *
      generalize w7.heap.size = gB at *
      go_loopw [12, 13] (fun v12 v13 wr => ∃ (j : Nat) (m : Mt) (t : Tok) (u : Mv) (su : Sv), j ≤ 4 ∧ v13 = .int .i64 j ∧ Hid (SI d i ms ts j m t) ∧ Hid (Bx wr gm 32 [.int .i64 m.id, .int .i64 m.rid, .slice u.ms.a u.ms.n u.ms.c, .slice u.its.a u.its.n u.its.c, .slice u.lv.a u.lv.n u.lv.c, .slice u.tx.a u.tx.n u.tx.c, .int .i64 m.rd, .int .i64 m.se, .int .i64 m.li, .int .i64 m.he, .int .i64 m.la.c, .int .i64 m.la.r, .int .i64 m.la.q, .int .i64 m.la.a, .int .i64 m.la.b, .slice u.ws.a u.ws.n u.ws.c]) ∧ Hid (Bx wr gt 30 [.int .i64 t.c, .int .i64 t.r, .int .i64 t.q, .int .i64 t.a, .int .i64 t.b, .slice su.a su.n su.c]) ∧ Hid (MtC wr 0 m u) ∧ Hid (OwnI wr 0 su.v t.ws) ∧ Hid (OwnS wr gB v12 (ts.take (3 * j))) ∧ Hid (OwnS wr 0 (.slice swa k swc) (ts)) ∧ Hid (Below w.heap.size w wr) ∧ Hid (gB ≤ wr.heap.size)) (fun _ v13 _ => 4 - (intOf v13).toNat)
      case atStart => exact ⟨0, sayK d i ms ts k, ⟨i, 1, 0, 0, 0, []⟩, u, zSv, by omega, rfl, SI0, GM, GT, MC, ownI_nil _ _, GO, WD, BW, ZGB⟩
      case round =>
        clear GM GT MC GO WD BW SI0 ZGB
        obtain ⟨j, m, t, u2, su, hj, rfl, SJ, GM, GT, MC, SU, GO, WD, BW, ZGB⟩ := hrel
        obtain ⟨v12x, hv12⟩ : ∃ x, x = u12 := ⟨_, rfl⟩
        subst hv12
        by_cases hlt : j < 4
        · have h3 : j ≤ 3 := by omega
          obtain ⟨⟨q1, q2, q3, q4, q5⟩, q6, q7, q8, q9⟩ := SJ.out.fits SHH.out (by omega)
          have HCL := hold_yes m u2 t su wr (show Hid (MtQ wr m u2) from MC.out.q) SU (by rw [q9]; simp) (show Hid (MtS m) from SJ.out.sizes SHH.out) (show Hid (m.ok = true) from SJ.out.right SHH.out (by omega)) (show Hid (mayB m t = true) from SJ.out.may SHH.out (by omega)) q3 (by omega) q2 q6 q4 q5 (by omega) (by omega)
          obtain ⟨m2, hm2⟩ : ∃ m2, m2 = m.held t := ⟨_, rfl⟩
          obtain ⟨t2, ht2⟩ : ∃ t2, t2 = nxTok m t := ⟨_, rfl⟩
          obtain ⟨ys, hys⟩ : ∃ ys, ys = saidL m t := ⟨_, rfl⟩
          rw [← hm2, ← ht2, ← hys] at HCL
          have SJ2 : Hid (SI d i ms ts (j + 1) m2 t2) := by rw [hm2, ht2]; exact SJ.out.next SHH.out h3
          have HYS : Hid (ys.map (·.2.2.2) = (ts.drop (3 * j)).take 3) := (by rw [hys, SJ.out.said SHH.out (by omega), itF_texts] : ys.map (·.2.2.2) = (ts.drop (3 * j)).take 3)
          have hyl : ys.length ≤ 3 := by have h := congrArg List.length HYS.out; rw [List.length_map] at h; rw [h, List.length_take]; omega
          clear hm2 ht2 hys q1 q2 q3 q4 q5 q6 q7 q8 q9 SJ
          go_wp2_with (first | (refine wpList_ldG rfl 32 _ rfl gm 0 rfl 32 _ GM.out [.int .i64 m.id, .int .i64 m.rid, .slice u2.ms.a u2.ms.n u2.ms.c, .slice u2.its.a u2.its.n u2.its.c, .slice u2.lv.a u2.lv.n u2.lv.c, .slice u2.tx.a u2.tx.n u2.tx.c, .int .i64 m.rd, .int .i64 m.se, .int .i64 m.li, .int .i64 m.he, .int .i64 m.la.c, .int .i64 m.la.r, .int .i64 m.la.q, .int .i64 m.la.a, .int .i64 m.la.b, .slice u2.ws.a u2.ws.n u2.ws.c] rfl _ Try.underlying32 rfl Try.sizeM ?_) | (refine wpList_ldG rfl 30 _ rfl gt 0 rfl 30 _ GT.out [.int .i64 t.c, .int .i64 t.r, .int .i64 t.q, .int .i64 t.a, .int .i64 t.b, .slice su.a su.n su.c] rfl _ Try.underlying30 rfl Try.sizeT ?_))
          refine HCL.mono ?_
          rintro e w9 ⟨u3, ⟨fa, fn, fc⟩, sn, rfl, mc3, fs3, os3, b9⟩
          have hfn : fn = ys.length := by obtain ⟨a0, c0, e0⟩ := Sl.form fs3; simp [Sv.v] at e0; exact e0.2.1
          have HFN : Hid (fn = ys.length) := hfn
          have hf3 : (fn : Int) ≤ 3 := by omega
          have zgo : Hid (∀ b, v12x.ownBlock = some b → gB ≤ b ∧ b < wr.heap.size) := fun b hb => GO.out.lt b hb
          have zHH : wr.heap.size ≤ w9.heap.size := b9.size
          have zGB : gB ≤ wr.heap.size := ZGB.out
          clear ZGB
          clear MC SU
          have GM : Hid (Bx w9 gm 32 [.int .i64 m.id, .int .i64 m.rid, .slice u2.ms.a u2.ms.n u2.ms.c, .slice u2.its.a u2.its.n u2.its.c, .slice u2.lv.a u2.lv.n u2.lv.c, .slice u2.tx.a u2.tx.n u2.tx.c, .int .i64 m.rd, .int .i64 m.se, .int .i64 m.li, .int .i64 m.he, .int .i64 m.la.c, .int .i64 m.la.r, .int .i64 m.la.q, .int .i64 m.la.a, .int .i64 m.la.b, .slice u2.ws.a u2.ws.n u2.ws.c]) := GM.out.later b9
          have GT : Hid (Bx w9 gt 30 [.int .i64 t.c, .int .i64 t.r, .int .i64 t.q, .int .i64 t.a, .int .i64 t.b, .slice su.a su.n su.c]) := GT.out.later b9
          have GO : Hid (OwnS w9 gB (v12x) (ts.take (3 * j))) := GO.out.keep' fun _ _ hk => b9.block _ hk
          have WD : Hid (OwnS w9 0 (.slice swa k swc) (ts)) := WD.out.keep' fun _ _ hk => b9.block _ hk
          have BW : Hid (Below w.heap.size w w9) := bl_next BW.out b9
          have M3 : Hid (MtC w9 wr.heap.size m2 u3) := mc3
          have SN : Hid (OwnI w9 0 (sn.v) (t2.ws)) := os3
          have FSL : Hid (SlI w9 0 (.slice fa fn fc) (ys)) := fs3
          have ztx : Hid (∀ b, u3.tx.v.ownBlock = some b → wr.heap.size ≤ b ∧ b < w9.heap.size) := fun b hb => Sl.lt M3.out.tx b hb
          clear mc3 fs3 os3 b9 hfn HCL
          have hna : (w9.alloc (.cells #[.int .i64 0, .int .i64 0, .slice none 0 0, .slice none 0 0, .slice none 0 0, .slice none 0 0, .int .i64 0, .int .i64 0, .int .i64 0, .int .i64 0, .int .i64 0, .int .i64 0, .int .i64 0, .int .i64 0, .int .i64 0, .slice none 0 0] 32)).heap.size = w9.heap.size + 1 := by simp
          have b10 : Below w9.heap.size w9 ((w9.alloc (.cells #[.int .i64 0, .int .i64 0, .slice none 0 0, .slice none 0 0, .slice none 0 0, .slice none 0 0, .int .i64 0, .int .i64 0, .int .i64 0, .int .i64 0, .int .i64 0, .int .i64 0, .int .i64 0, .int .i64 0, .int .i64 0, .slice none 0 0] 32)).alloc (.cells #[.int .i64 0, .int .i64 0, .int .i64 0, .int .i64 0, .int .i64 0, .slice none 0 0] 30)) := ((Below.refl _ _).alloc (Nat.le_refl _) _).alloc (by simp) _
          have G4 : Hid (Bx ((w9.alloc (.cells #[.int .i64 0, .int .i64 0, .slice none 0 0, .slice none 0 0, .slice none 0 0, .slice none 0 0, .int .i64 0, .int .i64 0, .int .i64 0, .int .i64 0, .int .i64 0, .int .i64 0, .int .i64 0, .int .i64 0, .int .i64 0, .slice none 0 0] 32)).alloc (.cells #[.int .i64 0, .int .i64 0, .int .i64 0, .int .i64 0, .int .i64 0, .slice none 0 0] 30)) w9.heap.size 32 [.int .i64 0, .int .i64 0, .slice none 0 0, .slice none 0 0, .slice none 0 0, .slice none 0 0, .int .i64 0, .int .i64 0, .int .i64 0, .int .i64 0, .int .i64 0, .int .i64 0, .int .i64 0, .int .i64 0, .int .i64 0, .slice none 0 0]) := (Bx.new w9 32 [.int .i64 0, .int .i64 0, .slice none 0 0, .slice none 0 0, .slice none 0 0, .slice none 0 0, .int .i64 0, .int .i64 0, .int .i64 0, .int .i64 0, .int .i64 0, .int .i64 0, .int .i64 0, .int .i64 0, .int .i64 0, .slice none 0 0]).later ((Below.refl _ _).alloc (Nat.le_refl _) _)
          have G6 : Hid (Bx ((w9.alloc (.cells #[.int .i64 0, .int .i64 0, .slice none 0 0, .slice none 0 0, .slice none 0 0, .slice none 0 0, .int .i64 0, .int .i64 0, .int .i64 0, .int .i64 0, .int .i64 0, .int .i64 0, .int .i64 0, .int .i64 0, .int .i64 0, .slice none 0 0] 32)).alloc (.cells #[.int .i64 0, .int .i64 0, .int .i64 0, .int .i64 0, .int .i64 0, .slice none 0 0] 30)) (w9.heap.size + 1) 30 [.int .i64 0, .int .i64 0, .int .i64 0, .int .i64 0, .int .i64 0, .slice none 0 0]) := by have h := Bx.new (w9.alloc (.cells #[.int .i64 0, .int .i64 0, .slice none 0 0, .slice none 0 0, .slice none 0 0, .slice none 0 0, .int .i64 0, .int .i64 0, .int .i64 0, .int .i64 0, .int .i64 0, .int .i64 0, .int .i64 0, .int .i64 0, .int .i64 0, .slice none 0 0] 32)) 30 [.int .i64 0, .int .i64 0, .int .i64 0, .int .i64 0, .int .i64 0, .slice none 0 0]; rw [hna] at h; exact h
          have zm9 : gm < w9.heap.size := GM.out.lt
          have zt9 : gt < w9.heap.size := GT.out.lt
          have zw9 : w.heap.size ≤ w9.heap.size := BW.out.size
          have GM : Hid (Bx ((w9.alloc (.cells #[.int .i64 0, .int .i64 0, .slice none 0 0, .slice none 0 0, .slice none 0 0, .slice none 0 0, .int .i64 0, .int .i64 0, .int .i64 0, .int .i64 0, .int .i64 0, .int .i64 0, .int .i64 0, .int .i64 0, .int .i64 0, .slice none 0 0] 32)).alloc (.cells #[.int .i64 0, .int .i64 0, .int .i64 0, .int .i64 0, .int .i64 0, .slice none 0 0] 30)) gm 32 [.int .i64 m.id, .int .i64 m.rid, .slice u2.ms.a u2.ms.n u2.ms.c, .slice u2.its.a u2.its.n u2.its.c, .slice u2.lv.a u2.lv.n u2.lv.c, .slice u2.tx.a u2.tx.n u2.tx.c, .int .i64 m.rd, .int .i64 m.se, .int .i64 m.li, .int .i64 m.he, .int .i64 m.la.c, .int .i64 m.la.r, .int .i64 m.la.q, .int .i64 m.la.a, .int .i64 m.la.b, .slice u2.ws.a u2.ws.n u2.ws.c]) := GM.out.later b10
          have GT : Hid (Bx ((w9.alloc (.cells #[.int .i64 0, .int .i64 0, .slice none 0 0, .slice none 0 0, .slice none 0 0, .slice none 0 0, .int .i64 0, .int .i64 0, .int .i64 0, .int .i64 0, .int .i64 0, .int .i64 0, .int .i64 0, .int .i64 0, .int .i64 0, .slice none 0 0] 32)).alloc (.cells #[.int .i64 0, .int .i64 0, .int .i64 0, .int .i64 0, .int .i64 0, .slice none 0 0] 30)) gt 30 [.int .i64 t.c, .int .i64 t.r, .int .i64 t.q, .int .i64 t.a, .int .i64 t.b, .slice su.a su.n su.c]) := GT.out.later b10
          have GO : Hid (OwnS ((w9.alloc (.cells #[.int .i64 0, .int .i64 0, .slice none 0 0, .slice none 0 0, .slice none 0 0, .slice none 0 0, .int .i64 0, .int .i64 0, .int .i64 0, .int .i64 0, .int .i64 0, .int .i64 0, .int .i64 0, .int .i64 0, .int .i64 0, .slice none 0 0] 32)).alloc (.cells #[.int .i64 0, .int .i64 0, .int .i64 0, .int .i64 0, .int .i64 0, .slice none 0 0] 30)) gB (v12x) (ts.take (3 * j))) := GO.out.keep' fun _ _ hk => b10.block _ hk
          have WD : Hid (OwnS ((w9.alloc (.cells #[.int .i64 0, .int .i64 0, .slice none 0 0, .slice none 0 0, .slice none 0 0, .slice none 0 0, .int .i64 0, .int .i64 0, .int .i64 0, .int .i64 0, .int .i64 0, .int .i64 0, .int .i64 0, .int .i64 0, .int .i64 0, .slice none 0 0] 32)).alloc (.cells #[.int .i64 0, .int .i64 0, .int .i64 0, .int .i64 0, .int .i64 0, .slice none 0 0] 30)) 0 (.slice swa k swc) (ts)) := WD.out.keep' fun _ _ hk => b10.block _ hk
          have BW : Hid (Below w.heap.size w ((w9.alloc (.cells #[.int .i64 0, .int .i64 0, .slice none 0 0, .slice none 0 0, .slice none 0 0, .slice none 0 0, .int .i64 0, .int .i64 0, .int .i64 0, .int .i64 0, .int .i64 0, .int .i64 0, .int .i64 0, .int .i64 0, .int .i64 0, .slice none 0 0] 32)).alloc (.cells #[.int .i64 0, .int .i64 0, .int .i64 0, .int .i64 0, .int .i64 0, .slice none 0 0] 30))) := bl_next BW.out b10
          have M3 : Hid (MtC ((w9.alloc (.cells #[.int .i64 0, .int .i64 0, .slice none 0 0, .slice none 0 0, .slice none 0 0, .slice none 0 0, .int .i64 0, .int .i64 0, .int .i64 0, .int .i64 0, .int .i64 0, .int .i64 0, .int .i64 0, .int .i64 0, .int .i64 0, .slice none 0 0] 32)).alloc (.cells #[.int .i64 0, .int .i64 0, .int .i64 0, .int .i64 0, .int .i64 0, .slice none 0 0] 30)) wr.heap.size m2 u3) := M3.out.later b10
          have SN : Hid (OwnI ((w9.alloc (.cells #[.int .i64 0, .int .i64 0, .slice none 0 0, .slice none 0 0, .slice none 0 0, .slice none 0 0, .int .i64 0, .int .i64 0, .int .i64 0, .int .i64 0, .int .i64 0, .int .i64 0, .int .i64 0, .int .i64 0, .int .i64 0, .slice none 0 0] 32)).alloc (.cells #[.int .i64 0, .int .i64 0, .int .i64 0, .int .i64 0, .int .i64 0, .slice none 0 0] 30)) 0 (sn.v) (t2.ws)) := SN.out.keep fun _ _ hk => b10.block _ hk
          have FSL : Hid (SlI ((w9.alloc (.cells #[.int .i64 0, .int .i64 0, .slice none 0 0, .slice none 0 0, .slice none 0 0, .slice none 0 0, .int .i64 0, .int .i64 0, .int .i64 0, .int .i64 0, .int .i64 0, .int .i64 0, .int .i64 0, .int .i64 0, .int .i64 0, .slice none 0 0] 32)).alloc (.cells #[.int .i64 0, .int .i64 0, .int .i64 0, .int .i64 0, .int .i64 0, .slice none 0 0] 30)) 0 (.slice fa fn fc) (ys)) := FSL.out.below b10
          clear b10 hna
          dsimp only
          go_wp2_with (first | (refine wpList_haltS 32 _ _ rfl ?_))
          generalize ((w9.alloc (.cells #[.int .i64 0, .int .i64 0, .slice none 0 0, .slice none 0 0, .slice none 0 0, .slice none 0 0, .int .i64 0, .int .i64 0, .int .i64 0, .int .i64 0, .int .i64 0, .int .i64 0, .int .i64 0, .int .i64 0, .int .i64 0, .slice none 0 0] 32)).alloc (.cells #[.int .i64 0, .int .i64 0, .int .i64 0, .int .i64 0, .int .i64 0, .slice none 0 0] 30)) = wA at *
          generalize w9.heap.size = g9 at *
          refine Stp.go ?_
          refine wpList_stB rfl 32 _ _ rfl g9 0 rfl 32 _ G4.out [.int .i64 m2.id, .int .i64 m2.rid, .slice u3.ms.a u3.ms.n u3.ms.c, .slice u3.its.a u3.its.n u3.its.c, .slice u3.lv.a u3.lv.n u3.lv.c, .slice u3.tx.a u3.tx.n u3.tx.c, .int .i64 m2.rd, .int .i64 m2.se, .int .i64 m2.li, .int .i64 m2.he, .int .i64 m2.la.c, .int .i64 m2.la.r, .int .i64 m2.la.q, .int .i64 m2.la.a, .int .i64 m2.la.b, .slice u3.ws.a u3.ws.n u3.ws.c] rfl (by simp) Try.sizeM rfl [.int .i64 m2.id, .int .i64 m2.rid, .slice u3.ms.a u3.ms.n u3.ms.c, .slice u3.its.a u3.its.n u3.its.c, .slice u3.lv.a u3.lv.n u3.lv.c, .slice u3.tx.a u3.tx.n u3.tx.c, .int .i64 m2.rd, .int .i64 m2.se, .int .i64 m2.li, .int .i64 m2.he, .int .i64 m2.la.c, .int .i64 m2.la.r, .int .i64 m2.la.q, .int .i64 m2.la.a, .int .i64 m2.la.b, .slice u3.ws.a u3.ws.n u3.ws.c] rfl ?_
          intro wB kB tB
          have KK : KeepTy (fun X => X = 32) wA wB := KeepTy.ofTurn G4.out tB rfl
          have GM : Hid (Bx wB gm 32 [.int .i64 m.id, .int .i64 m.rid, .slice u2.ms.a u2.ms.n u2.ms.c, .slice u2.its.a u2.its.n u2.its.c, .slice u2.lv.a u2.lv.n u2.lv.c, .slice u2.tx.a u2.tx.n u2.tx.c, .int .i64 m.rd, .int .i64 m.se, .int .i64 m.li, .int .i64 m.he, .int .i64 m.la.c, .int .i64 m.la.r, .int .i64 m.la.q, .int .i64 m.la.a, .int .i64 m.la.b, .slice u2.ws.a u2.ws.n u2.ws.c]) := GM.out.turn tB (by omega)
          have GT : Hid (Bx wB gt 30 [.int .i64 t.c, .int .i64 t.r, .int .i64 t.q, .int .i64 t.a, .int .i64 t.b, .slice su.a su.n su.c]) := GT.out.kt KK (by decide)
          have GO : Hid (OwnS wB gB (v12x) (ts.take (3 * j))) := GO.out.kt KK (by decide)
          have WD : Hid (OwnS wB 0 (.slice swa k swc) (ts)) := WD.out.kt KK (by decide)
          have BW : Hid (Below w.heap.size w wB) := BW.out.trans (tB.below (by omega))
          have M3 : Hid (MtC wB wr.heap.size m2 u3) := M3.out.kt KK (by decide) (by decide) (by decide)
          have SN : Hid (OwnI wB 0 (sn.v) (t2.ws)) := SN.out.kt KK (by decide)
          have FSL : Hid (SlI wB 0 (.slice fa fn fc) (ys)) := FSL.out.kt KK (by decide)
          have G6 : Hid (Bx wB (g9 + 1) 30 [.int .i64 0, .int .i64 0, .int .i64 0, .int .i64 0, .int .i64 0, .slice none 0 0]) := G6.out.kt KK (by decide)
          clear KK
          have G4 : Hid (Bx wB g9 32 [.int .i64 m2.id, .int .i64 m2.rid, .slice u3.ms.a u3.ms.n u3.ms.c, .slice u3.its.a u3.its.n u3.its.c, .slice u3.lv.a u3.lv.n u3.lv.c, .slice u3.tx.a u3.tx.n u3.tx.c, .int .i64 m2.rd, .int .i64 m2.se, .int .i64 m2.li, .int .i64 m2.he, .int .i64 m2.la.c, .int .i64 m2.la.r, .int .i64 m2.la.q, .int .i64 m2.la.a, .int .i64 m2.la.b, .slice u3.ws.a u3.ws.n u3.ws.c]) := kB
          clear kB tB
          go_wp2_with (first | (refine wpList_haltS 30 _ _ rfl ?_))
          refine Stp.go ?_
          refine wpList_stB rfl 30 _ _ rfl (g9 + 1) 0 rfl 30 _ G6.out [.int .i64 t2.c, .int .i64 t2.r, .int .i64 t2.q, .int .i64 t2.a, .int .i64 t2.b, .slice sn.a sn.n sn.c] rfl (by simp) Try.sizeT rfl [.int .i64 t2.c, .int .i64 t2.r, .int .i64 t2.q, .int .i64 t2.a, .int .i64 t2.b, .slice sn.a sn.n sn.c] rfl ?_
          intro wC kC tC
          have KK : KeepTy (fun X => X = 30) wB wC := KeepTy.ofTurn G6.out tC rfl
          have GM : Hid (Bx wC gm 32 [.int .i64 m.id, .int .i64 m.rid, .slice u2.ms.a u2.ms.n u2.ms.c, .slice u2.its.a u2.its.n u2.its.c, .slice u2.lv.a u2.lv.n u2.lv.c, .slice u2.tx.a u2.tx.n u2.tx.c, .int .i64 m.rd, .int .i64 m.se, .int .i64 m.li, .int .i64 m.he, .int .i64 m.la.c, .int .i64 m.la.r, .int .i64 m.la.q, .int .i64 m.la.a, .int .i64 m.la.b, .slice u2.ws.a u2.ws.n u2.ws.c]) := GM.out.kt KK (by decide)
          have GT : Hid (Bx wC gt 30 [.int .i64 t.c, .int .i64 t.r, .int .i64 t.q, .int .i64 t.a, .int .i64 t.b, .slice su.a su.n su.c]) := GT.out.turn tC (by omega)
          have GO : Hid (OwnS wC gB (v12x) (ts.take (3 * j))) := GO.out.kt KK (by decide)
          have WD : Hid (OwnS wC 0 (.slice swa k swc) (ts)) := WD.out.kt KK (by decide)
          have BW : Hid (Below w.heap.size w wC) := BW.out.trans (tC.below (by omega))
          have M3 : Hid (MtC wC wr.heap.size m2 u3) := M3.out.kt KK (by decide) (by decide) (by decide)
          have SN : Hid (OwnI wC 0 (sn.v) (t2.ws)) := SN.out.kt KK (by decide)
          have FSL : Hid (SlI wC 0 (.slice fa fn fc) (ys)) := FSL.out.kt KK (by decide)
          have G4 : Hid (Bx wC g9 32 [.int .i64 m2.id, .int .i64 m2.rid, .slice u3.ms.a u3.ms.n u3.ms.c, .slice u3.its.a u3.its.n u3.its.c, .slice u3.lv.a u3.lv.n u3.lv.c, .slice u3.tx.a u3.tx.n u3.tx.c, .int .i64 m2.rd, .int .i64 m2.se, .int .i64 m2.li, .int .i64 m2.he, .int .i64 m2.la.c, .int .i64 m2.la.r, .int .i64 m2.la.q, .int .i64 m2.la.a, .int .i64 m2.la.b, .slice u3.ws.a u3.ws.n u3.ws.c]) := G4.out.kt KK (by decide)
          clear KK
          have G6 : Hid (Bx wC (g9 + 1) 30 [.int .i64 t2.c, .int .i64 t2.r, .int .i64 t2.q, .int .i64 t2.a, .int .i64 t2.b, .slice sn.a sn.n sn.c]) := kC
          clear kC tC
          have ZC : Hid (g9 + 1 < wC.heap.size) := G6.out.lt
          generalize wr.heap.size = HH at *
          have zgo : Hid (∀ b, v12x.ownBlock = some b → b < HH ∨ g9 ≤ b) := fun b hb => .inl (zgo.out b hb).2
          go_wp2_with fail
          go_loopw [12, 18] (fun v12 v18 wr => ∃ q : Nat, q ≤ fn ∧ v18 = .int .i64 q ∧ Hid (OwnS wr gB v12 (ts.take (3 * j) ++ (ys.take q).map (·.2.2.2))) ∧ Hid (∀ b, v12.ownBlock = some b → b < HH ∨ g9 ≤ b) ∧ Hid (Bx wr gm 32 [.int .i64 m.id, .int .i64 m.rid, .slice u2.ms.a u2.ms.n u2.ms.c, .slice u2.its.a u2.its.n u2.its.c, .slice u2.lv.a u2.lv.n u2.lv.c, .slice u2.tx.a u2.tx.n u2.tx.c, .int .i64 m.rd, .int .i64 m.se, .int .i64 m.li, .int .i64 m.he, .int .i64 m.la.c, .int .i64 m.la.r, .int .i64 m.la.q, .int .i64 m.la.a, .int .i64 m.la.b, .slice u2.ws.a u2.ws.n u2.ws.c]) ∧ Hid (Bx wr gt 30 [.int .i64 t.c, .int .i64 t.r, .int .i64 t.q, .int .i64 t.a, .int .i64 t.b, .slice su.a su.n su.c]) ∧ Hid (MtC wr HH m2 u3) ∧ Hid (OwnI wr 0 (sn.v) (t2.ws)) ∧ Hid (SlI wr 0 (.slice fa fn fc) (ys)) ∧ Hid (OwnS wr 0 (.slice swa k swc) (ts)) ∧ Hid (Below w.heap.size w wr) ∧ Hid (Bx wr g9 32 [.int .i64 m2.id, .int .i64 m2.rid, .slice u3.ms.a u3.ms.n u3.ms.c, .slice u3.its.a u3.its.n u3.its.c, .slice u3.lv.a u3.lv.n u3.lv.c, .slice u3.tx.a u3.tx.n u3.tx.c, .int .i64 m2.rd, .int .i64 m2.se, .int .i64 m2.li, .int .i64 m2.he, .int .i64 m2.la.c, .int .i64 m2.la.r, .int .i64 m2.la.q, .int .i64 m2.la.a, .int .i64 m2.la.b, .slice u3.ws.a u3.ws.n u3.ws.c]) ∧ Hid (Bx wr (g9 + 1) 30 [.int .i64 t2.c, .int .i64 t2.r, .int .i64 t2.q, .int .i64 t2.a, .int .i64 t2.b, .slice sn.a sn.n sn.c])) (fun _ v18 _ => fn - (intOf v18).toNat)
          case atStart => exact ⟨0, by omega, rfl, (by have h := GO.out; rw [List.take_zero, List.map_nil, List.append_nil]; exact h), zgo, GM, GT, M3, SN, FSL, WD, BW, G4, G6⟩
          case round =>
            clear GO zgo GM GT M3 SN FSL WD BW G4 G6
            obtain ⟨q, hq, rfl, GO, zgo, GM, GT, M3, SN, FSL, WD, BW, G4, G6⟩ := hrel
            obtain ⟨v12y, hv12⟩ : ∃ x, x = u12 := ⟨_, rfl⟩
            subst hv12
            have hsw : gB ≤ wr.heap.size := by have h1 := G6.out.lt; omega
            have hs9 : g9 + 1 < wr.heap.size := G6.out.lt
            by_cases hlq : q < fn
            · have hqy : q < ys.length := by rw [← HFN.out]; exact hlq
              obtain ⟨fa2, fc2, fe, fx⟩ := SlI.items FSL.out
              obtain ⟨fb, fo, ef, hfb, _, _, _, hft⟩ := fx q hqy
              simp only [Value.slice.injEq] at fe
              rw [← fe.1] at ef
              subst ef
              have HX : Hid (∃ x : ByteArray, x = ys[q].2.2.2) := ⟨_, rfl⟩
              obtain ⟨x, hx⟩ := HX.out
              rw [← hx] at hft
              have HST : Hid (ts.take (3 * j) ++ (ys.take (q + 1)).map (·.2.2.2) = (ts.take (3 * j) ++ (ys.take q).map (·.2.2.2)) ++ [x]) := (by rw [List.take_succ_eq_append_getElem hqy, List.map_append, List.append_assoc, hx]; rfl : ts.take (3 * j) ++ (ys.take (q + 1)).map (·.2.2.2) = (ts.take (3 * j) ++ (ys.take q).map (·.2.2.2)) ++ [x])
              have hln : (ts.take (3 * j) ++ (ys.take q).map (·.2.2.2)).length < 4000000 := by rw [List.length_append, List.length_map, List.length_take, List.length_take]; omega
              have i0 : (0 : Int) ≤ (q : Int) := by omega
              have i1 : (q : Int) < (fn : Int) := by omega
              clear fe fx hx HX
              go_wp2_with (first | (at_builtin; refine Stp.here ?_))
              refine Stp.go ?_
              refine wpList_pushSb rfl _ _ 28 rfl Try.underlying28 Try.info9 gB v12y _ rfl GO.out x rfl hln hsw ?_
              intro v5 w5 o5 g5 n5
              have bA : Below wr.heap.size wr (wr.alloc (.cells #[.string x] 9)) := (Below.refl _ _).alloc (Nat.le_refl _) _
              have GOa : OwnS (wr.alloc (.cells #[.string x] 9)) gB v12y (ts.take (3 * j) ++ (ys.take q).map (·.2.2.2)) := GO.out.keep' fun _ _ hk => bA.block _ hk
              have KK : KeepTy (fun X => X = 9) (wr.alloc (.cells #[.string x] 9)) w5 := KeepTy.ofGrown g5 (fun z hz => by obtain ⟨cs, hc⟩ := own_is_s GOa hz; exact ⟨cs, _, _, hc, rfl⟩)
              have GM : Hid (Bx w5 gm 32 [.int .i64 m.id, .int .i64 m.rid, .slice u2.ms.a u2.ms.n u2.ms.c, .slice u2.its.a u2.its.n u2.its.c, .slice u2.lv.a u2.lv.n u2.lv.c, .slice u2.tx.a u2.tx.n u2.tx.c, .int .i64 m.rd, .int .i64 m.se, .int .i64 m.li, .int .i64 m.he, .int .i64 m.la.c, .int .i64 m.la.r, .int .i64 m.la.q, .int .i64 m.la.a, .int .i64 m.la.b, .slice u2.ws.a u2.ws.n u2.ws.c]) := (GM.out.later bA).kt KK (by decide)
              have GT : Hid (Bx w5 gt 30 [.int .i64 t.c, .int .i64 t.r, .int .i64 t.q, .int .i64 t.a, .int .i64 t.b, .slice su.a su.n su.c]) := (GT.out.later bA).kt KK (by decide)
              have M3a := M3.out.later bA
              have M3 : Hid (MtC w5 HH m2 u3) := ⟨M3a.ms.kt KK (by decide), M3a.its.kt KK (by decide), M3a.lv.kt KK (by decide), Sl.keep M3a.tx (fun z hz hlt => g5.block z hlt (fun e => by have h1 := ztx.out z hz; have h2 := zgo.out z e.symm; omega)), M3a.ws.kt KK (by decide)⟩
              have SN : Hid (OwnI w5 0 (sn.v) (t2.ws)) := (SN.out.keep fun _ _ hk => bA.block _ hk).kt KK (by decide)
              have FSL : Hid (SlI w5 0 (.slice (some ⟨fb, fo, none⟩) fn fc) (ys)) := (FSL.out.below bA).kt KK (by decide)
              have WD : Hid (OwnS w5 0 (.slice swa k swc) (ts)) := (WD.out.keep' fun _ _ hk => bA.block _ hk).keep' fun z hz hlt => g5.block z hlt (fun e => by have h1 := zwd.out z hz; have h2 := (GO.out.lt z e.symm).1; omega)
              have BW : Hid (Below w.heap.size w w5) := (bl_next BW.out bA).trans (below_grown_new g5 (fun z hz => by have := (GO.out.lt z hz).1; omega) (by have := (bl_next BW.out bA).size; exact this))
              have G4 : Hid (Bx w5 g9 32 [.int .i64 m2.id, .int .i64 m2.rid, .slice u3.ms.a u3.ms.n u3.ms.c, .slice u3.its.a u3.its.n u3.its.c, .slice u3.lv.a u3.lv.n u3.lv.c, .slice u3.tx.a u3.tx.n u3.tx.c, .int .i64 m2.rd, .int .i64 m2.se, .int .i64 m2.li, .int .i64 m2.he, .int .i64 m2.la.c, .int .i64 m2.la.r, .int .i64 m2.la.q, .int .i64 m2.la.a, .int .i64 m2.la.b, .slice u3.ws.a u3.ws.n u3.ws.c]) := (G4.out.later bA).kt KK (by decide)
              have G6 : Hid (Bx w5 (g9 + 1) 30 [.int .i64 t2.c, .int .i64 t2.r, .int .i64 t2.q, .int .i64 t2.a, .int .i64 t2.b, .slice sn.a sn.n sn.c]) := (G6.out.later bA).kt KK (by decide)
              have GO5 : Hid (OwnS w5 gB v5 (ts.take (3 * j) ++ (ys.take (q + 1)).map (·.2.2.2))) := by rw [HST.out]; exact o5
              have zgo5 : Hid (∀ b, v5.ownBlock = some b → b < HH ∨ g9 ≤ b) := fun b hb => by rcases n5 with e | e <;> rw [e] at hb <;> first | exact zgo.out b hb | (simp at hb; omega)
              clear o5 g5 n5 bA GOa KK M3a GO zgo HST hft hfb
              go_wp2_with fail
              go_roundw
              case rel => exact ⟨q + 1, by omega, by go_num, GO5, zgo5, GM, GT, M3, SN, FSL, WD, BW, G4, G6⟩
              case measure => simp [intOf]; omega
            · have hqe : fn = q := by omega
              subst hqe
              have hqn : fn = ys.length := HFN.out
              have GO : Hid (OwnS wr gB v12y (ts.take (3 * (j + 1)))) := by have h := GO.out; rw [hqn, List.take_length, HYS.out, take_three] at h; exact h
              clear hqn hlq hq zgo
              go_wp2_with (first | (refine wpList_ldG rfl 32 _ rfl g9 0 rfl 32 _ G4.out [.int .i64 m2.id, .int .i64 m2.rid, .slice u3.ms.a u3.ms.n u3.ms.c, .slice u3.its.a u3.its.n u3.its.c, .slice u3.lv.a u3.lv.n u3.lv.c, .slice u3.tx.a u3.tx.n u3.tx.c, .int .i64 m2.rd, .int .i64 m2.se, .int .i64 m2.li, .int .i64 m2.he, .int .i64 m2.la.c, .int .i64 m2.la.r, .int .i64 m2.la.q, .int .i64 m2.la.a, .int .i64 m2.la.b, .slice u3.ws.a u3.ws.n u3.ws.c] rfl _ Try.underlying32 rfl Try.sizeM ?_) | (refine wpList_haltS 32 _ _ rfl ?_))
              refine Stp.go ?_
              refine wpList_stB rfl 32 _ _ rfl gm 0 rfl 32 _ GM.out [.int .i64 m2.id, .int .i64 m2.rid, .slice u3.ms.a u3.ms.n u3.ms.c, .slice u3.its.a u3.its.n u3.its.c, .slice u3.lv.a u3.lv.n u3.lv.c, .slice u3.tx.a u3.tx.n u3.tx.c, .int .i64 m2.rd, .int .i64 m2.se, .int .i64 m2.li, .int .i64 m2.he, .int .i64 m2.la.c, .int .i64 m2.la.r, .int .i64 m2.la.q, .int .i64 m2.la.a, .int .i64 m2.la.b, .slice u3.ws.a u3.ws.n u3.ws.c] rfl (by simp) Try.sizeM rfl [.int .i64 m2.id, .int .i64 m2.rid, .slice u3.ms.a u3.ms.n u3.ms.c, .slice u3.its.a u3.its.n u3.its.c, .slice u3.lv.a u3.lv.n u3.lv.c, .slice u3.tx.a u3.tx.n u3.tx.c, .int .i64 m2.rd, .int .i64 m2.se, .int .i64 m2.li, .int .i64 m2.he, .int .i64 m2.la.c, .int .i64 m2.la.r, .int .i64 m2.la.q, .int .i64 m2.la.a, .int .i64 m2.la.b, .slice u3.ws.a u3.ws.n u3.ws.c] rfl ?_
              intro wD kD tD
              have KK : KeepTy (fun X => X = 32) wr wD := KeepTy.ofTurn GM.out tD rfl
              have GT : Hid (Bx wD gt 30 [.int .i64 t.c, .int .i64 t.r, .int .i64 t.q, .int .i64 t.a, .int .i64 t.b, .slice su.a su.n su.c]) := GT.out.kt KK (by decide)
              have WD : Hid (OwnS wD 0 (.slice swa k swc) (ts)) := WD.out.kt KK (by decide)
              have BW : Hid (Below w.heap.size w wD) := BW.out.trans (tD.below (by omega))
              have M3 : Hid (MtC wD HH m2 u3) := M3.out.kt KK (by decide) (by decide) (by decide)
              have SN : Hid (OwnI wD 0 (sn.v) (t2.ws)) := SN.out.kt KK (by decide)
              have FSL : Hid (SlI wD 0 (.slice fa fn fc) (ys)) := FSL.out.kt KK (by decide)
              have G4 : Hid (Bx wD g9 32 [.int .i64 m2.id, .int .i64 m2.rid, .slice u3.ms.a u3.ms.n u3.ms.c, .slice u3.its.a u3.its.n u3.its.c, .slice u3.lv.a u3.lv.n u3.lv.c, .slice u3.tx.a u3.tx.n u3.tx.c, .int .i64 m2.rd, .int .i64 m2.se, .int .i64 m2.li, .int .i64 m2.he, .int .i64 m2.la.c, .int .i64 m2.la.r, .int .i64 m2.la.q, .int .i64 m2.la.a, .int .i64 m2.la.b, .slice u3.ws.a u3.ws.n u3.ws.c]) := G4.out.turn tD (by omega)
              have G6 : Hid (Bx wD (g9 + 1) 30 [.int .i64 t2.c, .int .i64 t2.r, .int .i64 t2.q, .int .i64 t2.a, .int .i64 t2.b, .slice sn.a sn.n sn.c]) := G6.out.kt KK (by decide)
              have GO : Hid (OwnS wD gB (v12y) (ts.take (3 * (j + 1)))) := GO.out.kt KK (by decide)
              clear KK
              have GM : Hid (Bx wD gm 32 [.int .i64 m2.id, .int .i64 m2.rid, .slice u3.ms.a u3.ms.n u3.ms.c, .slice u3.its.a u3.its.n u3.its.c, .slice u3.lv.a u3.lv.n u3.lv.c, .slice u3.tx.a u3.tx.n u3.tx.c, .int .i64 m2.rd, .int .i64 m2.se, .int .i64 m2.li, .int .i64 m2.he, .int .i64 m2.la.c, .int .i64 m2.la.r, .int .i64 m2.la.q, .int .i64 m2.la.a, .int .i64 m2.la.b, .slice u3.ws.a u3.ws.n u3.ws.c]) := kD
              clear kD tD
              go_wp2_with (first | (refine wpList_ldG rfl 30 _ rfl (g9 + 1) 0 rfl 30 _ G6.out [.int .i64 t2.c, .int .i64 t2.r, .int .i64 t2.q, .int .i64 t2.a, .int .i64 t2.b, .slice sn.a sn.n sn.c] rfl _ Try.underlying30 rfl Try.sizeT ?_) | (refine wpList_haltS 30 _ _ rfl ?_))
              refine Stp.go ?_
              refine wpList_stB rfl 30 _ _ rfl gt 0 rfl 30 _ GT.out [.int .i64 t2.c, .int .i64 t2.r, .int .i64 t2.q, .int .i64 t2.a, .int .i64 t2.b, .slice sn.a sn.n sn.c] rfl (by simp) Try.sizeT rfl [.int .i64 t2.c, .int .i64 t2.r, .int .i64 t2.q, .int .i64 t2.a, .int .i64 t2.b, .slice sn.a sn.n sn.c] rfl ?_
              intro wE kE tE
              have KK : KeepTy (fun X => X = 30) wD wE := KeepTy.ofTurn GT.out tE rfl
              have GM : Hid (Bx wE gm 32 [.int .i64 m2.id, .int .i64 m2.rid, .slice u3.ms.a u3.ms.n u3.ms.c, .slice u3.its.a u3.its.n u3.its.c, .slice u3.lv.a u3.lv.n u3.lv.c, .slice u3.tx.a u3.tx.n u3.tx.c, .int .i64 m2.rd, .int .i64 m2.se, .int .i64 m2.li, .int .i64 m2.he, .int .i64 m2.la.c, .int .i64 m2.la.r, .int .i64 m2.la.q, .int .i64 m2.la.a, .int .i64 m2.la.b, .slice u3.ws.a u3.ws.n u3.ws.c]) := GM.out.kt KK (by decide)
              have WD : Hid (OwnS wE 0 (.slice swa k swc) (ts)) := WD.out.kt KK (by decide)
              have BW : Hid (Below w.heap.size w wE) := BW.out.trans (tE.below (by omega))
              have M3 : Hid (MtC wE HH m2 u3) := M3.out.kt KK (by decide) (by decide) (by decide)
              have SN : Hid (OwnI wE 0 (sn.v) (t2.ws)) := SN.out.kt KK (by decide)
              have FSL : Hid (SlI wE 0 (.slice fa fn fc) (ys)) := FSL.out.kt KK (by decide)
              have G4 : Hid (Bx wE g9 32 [.int .i64 m2.id, .int .i64 m2.rid, .slice u3.ms.a u3.ms.n u3.ms.c, .slice u3.its.a u3.its.n u3.its.c, .slice u3.lv.a u3.lv.n u3.lv.c, .slice u3.tx.a u3.tx.n u3.tx.c, .int .i64 m2.rd, .int .i64 m2.se, .int .i64 m2.li, .int .i64 m2.he, .int .i64 m2.la.c, .int .i64 m2.la.r, .int .i64 m2.la.q, .int .i64 m2.la.a, .int .i64 m2.la.b, .slice u3.ws.a u3.ws.n u3.ws.c]) := G4.out.kt KK (by decide)
              have G6 : Hid (Bx wE (g9 + 1) 30 [.int .i64 t2.c, .int .i64 t2.r, .int .i64 t2.q, .int .i64 t2.a, .int .i64 t2.b, .slice sn.a sn.n sn.c]) := G6.out.turn tE (by omega)
              have GO : Hid (OwnS wE gB (v12y) (ts.take (3 * (j + 1)))) := GO.out.kt KK (by decide)
              clear KK
              have GT : Hid (Bx wE gt 30 [.int .i64 t2.c, .int .i64 t2.r, .int .i64 t2.q, .int .i64 t2.a, .int .i64 t2.b, .slice sn.a sn.n sn.c]) := kE
              clear kE tE
              go_wp2_with fail
              go_roundw
              case rel => exact ⟨j + 1, m2, t2, u3, sn, by omega, by go_num, SJ2, GM, GT, M3.out.down (Nat.zero_le _), SN, GO, WD, BW, (by have := G6.out.lt; omega : gB ≤ wE.heap.size)⟩
              case measure => simp [intOf]; omega
        · obtain rfl : j = 4 := by omega
          have HTX : Hid (m.tx = []) := SJ.out.none SHH.out
          have HHE : Hid (k = m.hear.length) := (by rw [SJ.out.hears SHH.out]; exact HNW.out : k = m.hear.length)
          have HOK : Hid (m.hadH.ok = true) := SJ.out.had SHH.out
          have HMS : Hid (MtS m) := SJ.out.sizes SHH.out
          have HM2 : Hid (MtS m.hadH) := ⟨HMS.out.ms, HMS.out.its, HMS.out.lv, HMS.out.tx, HMS.out.ws, HMS.out.it, HMS.out.te, HMS.out.all⟩
          have h0 : m.he = 0 := SJ.out.he
          have ha : aruP m.its ≤ 1048576 := by rw [SJ.out.aru SHH.out]; have := SHH.out.len; omega
          have HCL := hearQ_any m u2 wr (show Hid (MtQ wr m u2) from MC.out.q) HMS (by omega) (by omega) ha
          have LTX : Hid (u2.tx.n = 0) := (by have h := Sl.form MC.out.tx; obtain ⟨a0, c0, e0⟩ := h; simp [Sv.v] at e0; rw [e0.2.1, HTX.out]; rfl : u2.tx.n = 0)
          have GO : Hid (OwnS wr gB v12x ts) := by have h := GO.out; rw [SI.all SHH.out] at h; exact h
          clear SJ h0 ha MC SU ZGB GT
          go_wp2_with (first | (refine wpList_ldG rfl 32 _ rfl gm 0 rfl 32 _ GM.out [.int .i64 m.id, .int .i64 m.rid, .slice u2.ms.a u2.ms.n u2.ms.c, .slice u2.its.a u2.its.n u2.its.c, .slice u2.lv.a u2.lv.n u2.lv.c, .slice u2.tx.a u2.tx.n u2.tx.c, .int .i64 m.rd, .int .i64 m.se, .int .i64 m.li, .int .i64 m.he, .int .i64 m.la.c, .int .i64 m.la.r, .int .i64 m.la.q, .int .i64 m.la.a, .int .i64 m.la.b, .slice u2.ws.a u2.ws.n u2.ws.c] rfl _ Try.underlying32 rfl Try.sizeM ?_))
          refine HCL.mono ?_
          rintro e w9 ⟨u3, ⟨la, ln, lc⟩, h', hh', rfl, mo3, sl3, _, b9⟩
          have hln : k = ln := by obtain ⟨a0, c0, e0⟩ := Sl.form sl3; simp [Sv.v] at e0; have := HHE.out; omega
          clear sl3 HCL
          subst hln
          have hm4 : m.hadH = (⟨m.id, m.rid, m.ms, m.its, m.lv, m.tx, m.rd, m.se, m.li, h', m.la⟩ : Mt) := by rw [hh']; rfl
          rw [hm4] at mo3
          have HOK : Hid ((⟨m.id, m.rid, m.ms, m.its, m.lv, m.tx, m.rd, m.se, m.li, h', m.la⟩ : Mt).ok = true) := by rw [← hm4]; exact HOK
          have HM2 : Hid (MtS (⟨m.id, m.rid, m.ms, m.its, m.lv, m.tx, m.rd, m.se, m.li, h', m.la⟩ : Mt)) := by rw [← hm4]; exact HM2
          clear hm4 hh' HHE
          have zwr : w.heap.size ≤ wr.heap.size := BW.out.size
          have GM : Hid (Bx w9 gm 32 [.int .i64 m.id, .int .i64 m.rid, .slice u2.ms.a u2.ms.n u2.ms.c, .slice u2.its.a u2.its.n u2.its.c, .slice u2.lv.a u2.lv.n u2.lv.c, .slice u2.tx.a u2.tx.n u2.tx.c, .int .i64 m.rd, .int .i64 m.se, .int .i64 m.li, .int .i64 m.he, .int .i64 m.la.c, .int .i64 m.la.r, .int .i64 m.la.q, .int .i64 m.la.a, .int .i64 m.la.b, .slice u2.ws.a u2.ws.n u2.ws.c]) := GM.out.later b9
          have GO : Hid (OwnS w9 gB (v12x) (ts)) := GO.out.keep' fun _ _ hk => b9.block _ hk
          have WD : Hid (OwnS w9 0 (.slice swa k swc) (ts)) := WD.out.keep' fun _ _ hk => b9.block _ hk
          have BW : Hid (Below w.heap.size w w9) := bl_next BW.out b9
          have M4 : Hid (MtO w9 wr.heap.size (⟨m.id, m.rid, m.ms, m.its, m.lv, m.tx, m.rd, m.se, m.li, h', m.la⟩ : Mt) u3) := mo3
          have zm9 : gm < w9.heap.size := GM.out.lt
          have zw9 : w.heap.size ≤ w9.heap.size := BW.out.size
          clear mo3 b9
          have hz : Hid (Bx (w9.alloc (.cells #[.int .i64 0, .int .i64 0, .slice none 0 0, .slice none 0 0, .slice none 0 0, .slice none 0 0, .int .i64 0, .int .i64 0, .int .i64 0, .int .i64 0, .int .i64 0, .int .i64 0, .int .i64 0, .int .i64 0, .int .i64 0, .slice none 0 0] 32)) w9.heap.size 32 [.int .i64 0, .int .i64 0, .slice none 0 0, .slice none 0 0, .slice none 0 0, .slice none 0 0, .int .i64 0, .int .i64 0, .int .i64 0, .int .i64 0, .int .i64 0, .int .i64 0, .int .i64 0, .int .i64 0, .int .i64 0, .slice none 0 0]) := Bx.new w9 32 [.int .i64 0, .int .i64 0, .slice none 0 0, .slice none 0 0, .slice none 0 0, .slice none 0 0, .int .i64 0, .int .i64 0, .int .i64 0, .int .i64 0, .int .i64 0, .int .i64 0, .int .i64 0, .int .i64 0, .int .i64 0, .slice none 0 0]
          have b10 : Below w9.heap.size w9 (w9.alloc (.cells #[.int .i64 0, .int .i64 0, .slice none 0 0, .slice none 0 0, .slice none 0 0, .slice none 0 0, .int .i64 0, .int .i64 0, .int .i64 0, .int .i64 0, .int .i64 0, .int .i64 0, .int .i64 0, .int .i64 0, .int .i64 0, .slice none 0 0] 32)) := (Below.refl _ _).alloc (Nat.le_refl _) _
          have GM : Hid (Bx (w9.alloc (.cells #[.int .i64 0, .int .i64 0, .slice none 0 0, .slice none 0 0, .slice none 0 0, .slice none 0 0, .int .i64 0, .int .i64 0, .int .i64 0, .int .i64 0, .int .i64 0, .int .i64 0, .int .i64 0, .int .i64 0, .int .i64 0, .slice none 0 0] 32)) gm 32 [.int .i64 m.id, .int .i64 m.rid, .slice u2.ms.a u2.ms.n u2.ms.c, .slice u2.its.a u2.its.n u2.its.c, .slice u2.lv.a u2.lv.n u2.lv.c, .slice u2.tx.a u2.tx.n u2.tx.c, .int .i64 m.rd, .int .i64 m.se, .int .i64 m.li, .int .i64 m.he, .int .i64 m.la.c, .int .i64 m.la.r, .int .i64 m.la.q, .int .i64 m.la.a, .int .i64 m.la.b, .slice u2.ws.a u2.ws.n u2.ws.c]) := GM.out.later b10
          have GO : Hid (OwnS (w9.alloc (.cells #[.int .i64 0, .int .i64 0, .slice none 0 0, .slice none 0 0, .slice none 0 0, .slice none 0 0, .int .i64 0, .int .i64 0, .int .i64 0, .int .i64 0, .int .i64 0, .int .i64 0, .int .i64 0, .int .i64 0, .int .i64 0, .slice none 0 0] 32)) gB (v12x) (ts)) := GO.out.keep' fun _ _ hk => b10.block _ hk
          have WD : Hid (OwnS (w9.alloc (.cells #[.int .i64 0, .int .i64 0, .slice none 0 0, .slice none 0 0, .slice none 0 0, .slice none 0 0, .int .i64 0, .int .i64 0, .int .i64 0, .int .i64 0, .int .i64 0, .int .i64 0, .int .i64 0, .int .i64 0, .int .i64 0, .slice none 0 0] 32)) 0 (.slice swa k swc) (ts)) := WD.out.keep' fun _ _ hk => b10.block _ hk
          have BW : Hid (Below w.heap.size w (w9.alloc (.cells #[.int .i64 0, .int .i64 0, .slice none 0 0, .slice none 0 0, .slice none 0 0, .slice none 0 0, .int .i64 0, .int .i64 0, .int .i64 0, .int .i64 0, .int .i64 0, .int .i64 0, .int .i64 0, .int .i64 0, .int .i64 0, .slice none 0 0] 32))) := bl_next BW.out b10
          have M4 : Hid (MtO (w9.alloc (.cells #[.int .i64 0, .int .i64 0, .slice none 0 0, .slice none 0 0, .slice none 0 0, .slice none 0 0, .int .i64 0, .int .i64 0, .int .i64 0, .int .i64 0, .int .i64 0, .int .i64 0, .int .i64 0, .int .i64 0, .int .i64 0, .slice none 0 0] 32)) wr.heap.size (⟨m.id, m.rid, m.ms, m.its, m.lv, m.tx, m.rd, m.se, m.li, h', m.la⟩ : Mt) u3) := M4.out.later b10
          clear b10
          dsimp only
          go_wp2_with (first | (refine wpList_haltS 32 _ _ rfl ?_))
          generalize w9.alloc (.cells #[.int .i64 0, .int .i64 0, .slice none 0 0, .slice none 0 0, .slice none 0 0, .slice none 0 0, .int .i64 0, .int .i64 0, .int .i64 0, .int .i64 0, .int .i64 0, .int .i64 0, .int .i64 0, .int .i64 0, .int .i64 0, .slice none 0 0] 32) = wA at *
          generalize w9.heap.size = g9 at *
          refine Stp.go ?_
          refine wpList_stB rfl 32 _ _ rfl g9 0 rfl 32 _ hz.out [.int .i64 m.id, .int .i64 m.rid, .slice u3.ms.a u3.ms.n u3.ms.c, .slice u3.its.a u3.its.n u3.its.c, .slice u3.lv.a u3.lv.n u3.lv.c, .slice u3.tx.a u3.tx.n u3.tx.c, .int .i64 m.rd, .int .i64 m.se, .int .i64 m.li, .int .i64 h', .int .i64 m.la.c, .int .i64 m.la.r, .int .i64 m.la.q, .int .i64 m.la.a, .int .i64 m.la.b, .slice u3.ws.a u3.ws.n u3.ws.c] rfl (by simp) Try.sizeM rfl [.int .i64 m.id, .int .i64 m.rid, .slice u3.ms.a u3.ms.n u3.ms.c, .slice u3.its.a u3.its.n u3.its.c, .slice u3.lv.a u3.lv.n u3.lv.c, .slice u3.tx.a u3.tx.n u3.tx.c, .int .i64 m.rd, .int .i64 m.se, .int .i64 m.li, .int .i64 h', .int .i64 m.la.c, .int .i64 m.la.r, .int .i64 m.la.q, .int .i64 m.la.a, .int .i64 m.la.b, .slice u3.ws.a u3.ws.n u3.ws.c] rfl ?_
          intro wB kB tB
          have KK : KeepTy (fun X => X = 32) wA wB := KeepTy.ofTurn hz.out tB rfl
          have GM : Hid (Bx wB gm 32 [.int .i64 m.id, .int .i64 m.rid, .slice u2.ms.a u2.ms.n u2.ms.c, .slice u2.its.a u2.its.n u2.its.c, .slice u2.lv.a u2.lv.n u2.lv.c, .slice u2.tx.a u2.tx.n u2.tx.c, .int .i64 m.rd, .int .i64 m.se, .int .i64 m.li, .int .i64 m.he, .int .i64 m.la.c, .int .i64 m.la.r, .int .i64 m.la.q, .int .i64 m.la.a, .int .i64 m.la.b, .slice u2.ws.a u2.ws.n u2.ws.c]) := GM.out.turn tB (by omega)
          have GO : Hid (OwnS wB gB (v12x) (ts)) := GO.out.kt KK (by decide)
          have WD : Hid (OwnS wB 0 (.slice swa k swc) (ts)) := WD.out.kt KK (by decide)
          have BW : Hid (Below w.heap.size w wB) := BW.out.trans (tB.below (by omega))
          have M4 : Hid (MtO wB wr.heap.size (⟨m.id, m.rid, m.ms, m.its, m.lv, m.tx, m.rd, m.se, m.li, h', m.la⟩ : Mt) u3) := M4.out.past hz.out tB (by decide) (by decide) (by decide)
          clear KK
          have hz : Hid (Bx wB g9 32 [.int .i64 m.id, .int .i64 m.rid, .slice u3.ms.a u3.ms.n u3.ms.c, .slice u3.its.a u3.its.n u3.its.c, .slice u3.lv.a u3.lv.n u3.lv.c, .slice u3.tx.a u3.tx.n u3.tx.c, .int .i64 m.rd, .int .i64 m.se, .int .i64 m.li, .int .i64 h', .int .i64 m.la.c, .int .i64 m.la.r, .int .i64 m.la.q, .int .i64 m.la.a, .int .i64 m.la.b, .slice u3.ws.a u3.ws.n u3.ws.c]) := kB
          clear kB tB
          obtain ⟨ga, gc, hgf, hgx⟩ := GO.out.texts
          rw [← HNW.out] at hgf
          subst hgf
          have HG : Hid (TextsAt wB ga ts) := hgx
          obtain ⟨wa, wc2, hwf, hwx⟩ := WD.out.texts
          simp only [Value.slice.injEq] at hwf
          rw [← hwf.1] at hwx
          have HW : Hid (TextsAt wB swa ts) := hwx
          have hcap : k ≤ swc := by have h := WD.out; unfold OwnS World.ownsRow at h; rcases h.2 with ⟨e, _⟩ | ⟨g, cap, cur, e, _, _, h4, _⟩ <;> simp at e <;> omega
          clear hgx hwx hwf
          go_wp2_with fail
          refine (sameT_k k ga swa _ _ ts wB HNW HG HW (by omega)).mono ?_
          rintro e wC ⟨rfl, bC⟩
          have GM : Hid (Bx wC gm 32 [.int .i64 m.id, .int .i64 m.rid, .slice u2.ms.a u2.ms.n u2.ms.c, .slice u2.its.a u2.its.n u2.its.c, .slice u2.lv.a u2.lv.n u2.lv.c, .slice u2.tx.a u2.tx.n u2.tx.c, .int .i64 m.rd, .int .i64 m.se, .int .i64 m.li, .int .i64 m.he, .int .i64 m.la.c, .int .i64 m.la.r, .int .i64 m.la.q, .int .i64 m.la.a, .int .i64 m.la.b, .slice u2.ws.a u2.ws.n u2.ws.c]) := GM.out.later bC
          have GO : Hid (OwnS wC gB (.slice ga k gc) (ts)) := GO.out.keep' fun _ _ hk => bC.block _ hk
          have WD : Hid (OwnS wC 0 (.slice swa k swc) (ts)) := WD.out.keep' fun _ _ hk => bC.block _ hk
          have BW : Hid (Below w.heap.size w wC) := bl_next BW.out bC
          have M4 : Hid (MtO wC wr.heap.size (⟨m.id, m.rid, m.ms, m.its, m.lv, m.tx, m.rd, m.se, m.li, h', m.la⟩ : Mt) u3) := M4.out.later bC
          have hz : Hid (Bx wC g9 32 [.int .i64 m.id, .int .i64 m.rid, .slice u3.ms.a u3.ms.n u3.ms.c, .slice u3.its.a u3.its.n u3.its.c, .slice u3.lv.a u3.lv.n u3.lv.c, .slice u3.tx.a u3.tx.n u3.tx.c, .int .i64 m.rd, .int .i64 m.se, .int .i64 m.li, .int .i64 h', .int .i64 m.la.c, .int .i64 m.la.r, .int .i64 m.la.q, .int .i64 m.la.a, .int .i64 m.la.b, .slice u3.ws.a u3.ws.n u3.ws.c]) := hz.out.later bC
          clear bC
          go_wp2_with (first | (refine wpList_ldG rfl 32 _ rfl g9 0 rfl 32 _ hz.out [.int .i64 m.id, .int .i64 m.rid, .slice u3.ms.a u3.ms.n u3.ms.c, .slice u3.its.a u3.its.n u3.its.c, .slice u3.lv.a u3.lv.n u3.lv.c, .slice u3.tx.a u3.tx.n u3.tx.c, .int .i64 m.rd, .int .i64 m.se, .int .i64 m.li, .int .i64 h', .int .i64 m.la.c, .int .i64 m.la.r, .int .i64 m.la.q, .int .i64 m.la.a, .int .i64 m.la.b, .slice u3.ws.a u3.ws.n u3.ws.c] rfl _ Try.underlying32 rfl Try.sizeM ?_))
          refine (mateOk_any (⟨m.id, m.rid, m.ms, m.its, m.lv, m.tx, m.rd, m.se, m.li, h', m.la⟩ : Mt) u3 _ (show Hid (MtR wC (⟨m.id, m.rid, m.ms, m.its, m.lv, m.tx, m.rd, m.se, m.li, h', m.la⟩ : Mt) u3) from M4.out.r) HM2).mono ?_
          rintro e wD ⟨rfl, bD⟩
          rw [HOK.out]
          have GM : Hid (Bx wD gm 32 [.int .i64 m.id, .int .i64 m.rid, .slice u2.ms.a u2.ms.n u2.ms.c, .slice u2.its.a u2.its.n u2.its.c, .slice u2.lv.a u2.lv.n u2.lv.c, .slice u2.tx.a u2.tx.n u2.tx.c, .int .i64 m.rd, .int .i64 m.se, .int .i64 m.li, .int .i64 m.he, .int .i64 m.la.c, .int .i64 m.la.r, .int .i64 m.la.q, .int .i64 m.la.a, .int .i64 m.la.b, .slice u2.ws.a u2.ws.n u2.ws.c]) := GM.out.later bD
          have GO : Hid (OwnS wD gB (.slice ga k gc) (ts)) := GO.out.keep' fun _ _ hk => bD.block _ hk
          have WD : Hid (OwnS wD 0 (.slice swa k swc) (ts)) := WD.out.keep' fun _ _ hk => bD.block _ hk
          have BW : Hid (Below w.heap.size w wD) := bl_next BW.out bD
          have M4 : Hid (MtO wD wr.heap.size (⟨m.id, m.rid, m.ms, m.its, m.lv, m.tx, m.rd, m.se, m.li, h', m.la⟩ : Mt) u3) := M4.out.later bD
          have hz : Hid (Bx wD g9 32 [.int .i64 m.id, .int .i64 m.rid, .slice u3.ms.a u3.ms.n u3.ms.c, .slice u3.its.a u3.its.n u3.its.c, .slice u3.lv.a u3.lv.n u3.lv.c, .slice u3.tx.a u3.tx.n u3.tx.c, .int .i64 m.rd, .int .i64 m.se, .int .i64 m.li, .int .i64 h', .int .i64 m.la.c, .int .i64 m.la.r, .int .i64 m.la.q, .int .i64 m.la.a, .int .i64 m.la.b, .slice u3.ws.a u3.ws.n u3.ws.c]) := hz.out.later bD
          clear bD
          rw [LTX.out] at GM
          go_wp2_with (first | (refine wpList_ld1 rfl 28 _ rfl gm 5 rfl 32 _ GM.out (.slice u2.tx.a 0 u2.tx.c) rfl _ Try.underlying28 rfl ?_))
          go_ret
          exact ⟨rfl, BW.out⟩
end Go.Proofs.Ythdjkkiegecgnaa


