/- The walk over the law on Receive. -/
import Derived.Test.YtohagaelenhebaaT1
import Derived.Test.YtohagaelenhebaaR4
import Derived.Test.YtohagaelenhebaaBx
import Derived.Deep.DeepCutAuto
namespace Go.Proofs.Ytohagaelenhebaa
open Go.RowKit Pl
set_option linter.unusedVariables false

theorem PcC.gri {w w' : World} {T p l h : Nat} {n a : Int} {s : ByteArray} (hc : PcC w T p n a s) (hg : GrI l h w w') (ho : p < l ∨ h ≤ p) : PcC w' T p n a s := (hg.block p hc.lt (by omega)).trans hc
theorem ackE_len (e : En) (a : Int) : (ackE e a).q.length ≤ e.q.length ∧ (ackE e a).o = e.o := by
  unfold ackE
  split
  · exact ⟨by simp, rfl⟩
  · exact ⟨Nat.le_refl _, rfl⟩
theorem rcvF_len (e : En) (p : Pc) : (rcvF e p).q.length ≤ e.q.length ∧ (rcvF e p).o.length ≤ e.o.length + 1 := by
  unfold rcvF recvE takeE
  have h := ackE_len e p.2.1
  split
  · split
    · simp only [List.length_append, List.length_singleton]; rw [h.2]; omega
    · rw [h.2]; omega
  · omega
theorem flat8 {a b c d e f g h : Prop} (h1 : a ∧ b ∧ c ∧ d ∧ e) (h2 : f ∧ g ∧ h) : a ∧ b ∧ c ∧ d ∧ e ∧ f ∧ g ∧ h := ⟨h1.1, h1.2.1, h1.2.2.1, h1.2.2.2.1, h1.2.2.2.2, h2⟩

theorem fill5 {N p : Nat} {w0 W : World} (h : Below N w0 W) (hp : N ≤ p) (a b c d e : Value) : Below N w0 (((((W.setCell ⟨p, 0, none⟩ a).setCell ⟨p, 1, none⟩ b).setCell ⟨p, 2, none⟩ c).setCell ⟨p, 3, none⟩ d).setCell ⟨p, 4, none⟩ e) :=
  ((((h.setCell (p := ⟨p, 0, none⟩) hp a).setCell (p := ⟨p, 1, none⟩) hp b).setCell (p := ⟨p, 2, none⟩) hp c).setCell (p := ⟨p, 3, none⟩) hp d).setCell (p := ⟨p, 4, none⟩) hp e
theorem EndC.drew {w : World} {T g : Nat} {n a gt : Int} {qv ov : Value} (h : EndC w T g n a qv gt ov) : EndC w.drew T g n a qv gt ov := h
/-- behind the call: the end lies in a box, its lists apart from it. -/
def BoxR (w wx : World) (u u' : Value) (f : En) (b : Bool) : Prop :=
  u' = .bool b ∧ Below w.heap.size w wx ∧ ∃ p lo hi xa xc xb xd, u = .pointer (some ⟨p, 0, none⟩) ∧ EndC wx 32 p f.nx f.ak (.slice xa f.q.length xc) f.gt (.slice xb f.o.length xd) ∧ EndI wx lo hi (.agg #[.int .i64 f.nx, .int .i64 f.ak, .slice xa f.q.length xc, .int .i64 f.gt, .slice xb f.o.length xd]) f ∧ (p < lo ∨ hi ≤ p) ∧ w.heap.size ≤ lo ∧ w.heap.size ≤ p ∧ p < wx.heap.size

theorem boxLate {w0 w9 : World} {B : Nat} {f : En} {b : Bool} {xa xb : Option Addr} {xc xd : Nat} (hb : Below w0.heap.size w0 w9) (m : EndM w9 B (.agg #[.int .i64 f.nx, .int .i64 f.ak, .slice xa f.q.length xc, .int .i64 f.gt, .slice xb f.o.length xd]) f) (hB : w0.heap.size ≤ B) :
    BoxR w0 (w9.alloc (.cells #[.int .i64 f.nx, .int .i64 f.ak, .slice xa f.q.length xc, .int .i64 f.gt, .slice xb f.o.length xd] 32)) (.pointer (some ⟨w9.heap.size, 0, none⟩)) (.bool b) f b := by
  have hx : Below w9.heap.size w9 (w9.alloc (.cells #[.int .i64 f.nx, .int .i64 f.ak, .slice xa f.q.length xc, .int .i64 f.gt, .slice xb f.o.length xd] 32)) := (Below.refl _ _).alloc (Nat.le_refl _) _
  exact ⟨rfl, hb.trans (hx.mono hb.size), w9.heap.size, B, w9.heap.size, _, _, _, _, rfl, EndC.new w9 32 _ _ _ _ _, ⟨m.stays hx, fun k hk => EndM.blk m hk, hx.size⟩, .inr (Nat.le_refl _), hB, hb.size, by simp⟩
theorem boxEarly {w0 w9 : World} {B p : Nat} {f : En} {b : Bool} {xa xb : Option Addr} {xc xd : Nat} (hb : Below w0.heap.size w0 w9) (X : EndC w9 32 p 0 0 (.slice none 0 0) 0 (.slice none 0 0)) (m : EndM w9 B (.agg #[.int .i64 f.nx, .int .i64 f.ak, .slice xa f.q.length xc, .int .i64 f.gt, .slice xb f.o.length xd]) f) (hp : p < B) (h0 : w0.heap.size ≤ p) :
    BoxR w0 (((((w9.setCell ⟨p, 0, none⟩ (.int .i64 f.nx)).setCell ⟨p, 1, none⟩ (.int .i64 f.ak)).setCell ⟨p, 2, none⟩ (.slice xa f.q.length xc)).setCell ⟨p, 3, none⟩ (.int .i64 f.gt)).setCell ⟨p, 4, none⟩ (.slice xb f.o.length xd)) (.pointer (some ⟨p, 0, none⟩)) (.bool b) f b := by
  show BoxR w0 (fillE w9 p f.nx f.ak (.slice xa f.q.length xc) f.gt (.slice xb f.o.length xd)) (.pointer (some ⟨p, 0, none⟩)) (.bool b) f b
  have K1 := fill_end X f.nx f.ak f.gt (.slice xa f.q.length xc) (.slice xb f.o.length xd)
  have K2 := fill_grown w9 p f.nx f.ak f.gt (.slice xa f.q.length xc) (.slice xb f.o.length xd)
  have hl := X.lt
  obtain ⟨qv, ov, hv, m1, m2, m3⟩ := m
  have hv' := hv
  simp at hv'
  obtain ⟨rfl, rfl⟩ := hv'
  have T1 := slt_grown m1 K2 (ne_low m1 hp)
  have T2 := slt_grown m2 K2 (ne_low m2 hp)
  have M : EndM (fillE w9 p f.nx f.ak (.slice xa f.q.length xc) f.gt (.slice xb f.o.length xd)) B (.agg #[.int .i64 f.nx, .int .i64 f.ak, .slice xa f.q.length xc, .int .i64 f.gt, .slice xb f.o.length xd]) f := ⟨_, _, rfl, T1, T2, m3⟩
  refine ⟨rfl, hb.trans (grown_to_below K2 h0 hb.size), p, B, _, _, _, _, _, rfl, K1, ⟨M, fun k hk => EndM.blk M hk, Nat.le_refl _⟩, .inl hp, by omega, h0, K1.lt⟩
theorem toEndB {e : En} {qa oa : Option Addr} {qc oc : Nat} {w w0 : World} (hg : Hid (Given w qa oa e.q e.o)) (hB : Below w.heap.size w w0) (lq : e.q.length ≤ 1048576) (lo : e.o.length ≤ 1048576) (W : World) (hW : Below w0.heap.size w0 W) :
    Calls Try.prog 26 #[.agg #[.int .i64 e.nx, .int .i64 e.ak, .slice qa e.q.length qc, .int .i64 e.gt, .slice oa e.o.length oc]] W fun r w' => ∃ y, r = .returned y ∧ EndM w' W.heap.size y e ∧ Below W.heap.size W w' ∧ Below w0.heap.size w0 w' := by
  have hB2 : Below w.heap.size w W := hB.trans (hW.mono hB.size)
  exact (toEnd_any e.nx e.ak e.gt qa oa qc oc e.q e.o W (show Hid (TextsAt _ _ _) from hg.out.tq.stays hB2) (show Hid (TextsAt _ _ _) from hg.out.to.stays hB2) lq lo).mono fun r w' ⟨y, h1, h2, h3⟩ => ⟨y, h1, h2, h3, hW.trans (h3.mono hW.size)⟩
theorem toParcelB (num ack : Int) (s : ByteArray) (w0 W : World) (hW : Below w0.heap.size w0 W) :
    Calls Try.prog 37 #[.agg #[.int .i64 num, .int .i64 ack, .string s]] W fun r w' => r = .returned (.agg #[.int .i64 num, .int .i64 ack, .string s]) ∧ Below W.heap.size W w' ∧ Below w0.heap.size w0 w' :=
  (toParcel_any num ack s W).mono fun r w' ⟨h1, h3⟩ => ⟨h1, h3, hW.trans (h3.mono hW.size)⟩
theorem spReceiveB {y : Value} {e f : En} {b : Bool} (num ack : Int) (s : ByteArray) (lq : e.q.length ≤ 1048576) (lo : e.o.length ≤ 1048576) (w0 W : World) (hW : Below w0.heap.size w0 W) (hy : EndR W y e) (hf : Hid (f = rcvF e (num, ack, s))) (hb : Hid (b = rcvB e (num, ack, s))) :
    Calls Try.prog 23 #[y, .agg #[.int .i64 num, .int .i64 ack, .string s]] W fun r w' => ∃ v, r = .returned (.tuple #[v, .bool b]) ∧ EndM w' W.heap.size v f ∧ Below W.heap.size W w' ∧ Below w0.heap.size w0 w' := by
  rw [hf.out, hb.out]
  exact (spReceive_any num ack s W hy lq lo).mono fun r w' ⟨v, h1, h2, h3⟩ => ⟨v, h1, h2, h3, hW.trans (h3.mono hW.size)⟩
theorem receiveB {y : Value} {e f : En} {b : Bool} (num ack : Int) (s : ByteArray) (lq : e.q.length ≤ 1048576) (lo : e.o.length ≤ 1048576) (sq : Hid (∀ t ∈ e.q, t.size ≤ 1048576)) (so : Hid (∀ t ∈ e.o, t.size ≤ 1048576)) (hs : s.size ≤ 1048576) (w0 W : World) (hW : Below w0.heap.size w0 W) (hy : EndR W y e) (hf : Hid (f = rcvF e (num, ack, s))) (hb : Hid (b = rcvB e (num, ack, s))) :
    Calls Try.prog 20 #[y, .agg #[.int .i64 num, .int .i64 ack, .string s]] W fun r w' => ∃ v, r = .returned (.tuple #[v, .bool b]) ∧ EndM w' W.heap.size v f ∧ Below W.heap.size W w' ∧ Below w0.heap.size w0 w' := by
  rw [hf.out, hb.out]
  exact (receive_any num ack s W hy lq lo sq so hs).mono fun r w' ⟨v, h1, h2, h3⟩ => ⟨v, h1, h2, h3, hW.trans (h3.mono hW.size)⟩

set_option maxRecDepth 100000 in
set_option maxHeartbeats 8000000 in
theorem lawReceive (e : En) (qa oa : Option Addr) (qc oc : Nat) (num ack : Int) (s : ByteArray) (w : World) (hg : Hid (Given w qa oa e.q e.o)) (hs0 : s.size ≤ maxLen) :
    Calls Try.prog 10 #[.agg #[.int .i64 e.nx, .int .i64 e.ak, .slice qa e.q.length qc, .int .i64 e.gt, .slice oa e.o.length oc], .agg #[.int .i64 num, .int .i64 ack, .string s]] w fun r w' => r = .returned (.bool true) ∧ Below w.heap.size w w' := by
  go_enter Try.func10, Try.ntmps10
  go_wp2_with fail
  have B_ : Below w.heap.size w ((w.alloc (Obj.cells #[Value.int IntKind.i64 e.nx, Value.int IntKind.i64 e.ak, Value.slice qa e.q.length qc, Value.int IntKind.i64 e.gt, Value.slice oa e.o.length oc] 45)).alloc (Obj.cells #[Value.int IntKind.i64 num, Value.int IntKind.i64 ack, Value.string s] 54)) := ((Below.refl _ _).alloc (Nat.le_refl _) _).alloc (by simp) _
  have F_ : EndC ((w.alloc (Obj.cells #[Value.int IntKind.i64 e.nx, Value.int IntKind.i64 e.ak, Value.slice qa e.q.length qc, Value.int IntKind.i64 e.gt, Value.slice oa e.o.length oc] 45)).alloc (Obj.cells #[Value.int IntKind.i64 num, Value.int IntKind.i64 ack, Value.string s] 54)) 45 w.heap.size e.nx e.ak (.slice qa e.q.length qc) e.gt (.slice oa e.o.length oc) := (EndC.new w 45 e.nx e.ak e.gt _ _).below ((Below.refl _ _).alloc (Nat.le_refl _) _)
  have P_ : PcC ((w.alloc (Obj.cells #[Value.int IntKind.i64 e.nx, Value.int IntKind.i64 e.ak, Value.slice qa e.q.length qc, Value.int IntKind.i64 e.gt, Value.slice oa e.o.length oc] 45)).alloc (Obj.cells #[Value.int IntKind.i64 num, Value.int IntKind.i64 ack, Value.string s] 54)) 54 (w.heap.size + 1) num ack s := by
    have := PcC.new (w.alloc (Obj.cells #[Value.int IntKind.i64 e.nx, Value.int IntKind.i64 e.ak, Value.slice qa e.q.length qc, Value.int IntKind.i64 e.gt, Value.slice oa e.o.length oc] 45)) 54 num ack s
    simpa using this
  have z0 : ((w.alloc (Obj.cells #[Value.int IntKind.i64 e.nx, Value.int IntKind.i64 e.ak, Value.slice qa e.q.length qc, Value.int IntKind.i64 e.gt, Value.slice oa e.o.length oc] 45)).alloc (Obj.cells #[Value.int IntKind.i64 num, Value.int IntKind.i64 ack, Value.string s] 54)).heap.size = w.heap.size + 2 := by simp
  generalize ((w.alloc (Obj.cells #[Value.int IntKind.i64 e.nx, Value.int IntKind.i64 e.ak, Value.slice qa e.q.length qc, Value.int IntKind.i64 e.gt, Value.slice oa e.o.length oc] 45)).alloc (Obj.cells #[Value.int IntKind.i64 num, Value.int IntKind.i64 ack, Value.string s] 54)) = w0 at *
  have F : Hid (EndC w0 45 w.heap.size e.nx e.ak (.slice qa e.q.length qc) e.gt (.slice oa e.o.length oc)) := F_
  have P : Hid (PcC w0 54 (w.heap.size + 1) num ack s) := P_
  have B : Hid (Below w.heap.size w w0) := B_
  clear F_ P_ B_
  refine (szEnd_any e.nx e.ak e.gt qa oa qc oc e.q e.o w0 (show Hid (TextsAt _ _ _) from hg.out.tq.stays B.out) (show Hid (TextsAt _ _ _) from hg.out.to.stays B.out) hg.out.lq hg.out.lo hg.out.sq hg.out.so).mono ?_
  rintro r_ w1 ⟨hr | ⟨r, hr, hf⟩, hb⟩
  · subst hr
    have BB : Hid (Below w.heap.size w w1) := B.out.trans (hb.mono B.out.size)
    clear hb
    go_wp2_with fail
    go_ret
    exact ⟨rfl, BB.out⟩
  subst hr
  obtain ⟨hl, hsq, hso⟩ := hf.out
  have hd : decide ((r : Int) < 0) = false := by simp
  have z1 : w0.heap.size ≤ w1.heap.size := hb.size
  have F_ : Hid (EndC w1 45 w.heap.size e.nx e.ak (.slice qa e.q.length qc) e.gt (.slice oa e.o.length oc)) := (F.out.below hb)
  have P_ : Hid (PcC w1 54 (w.heap.size + 1) num ack s) := (P.out.below hb)
  have B_ : Hid (Below w.heap.size w w1) := (B.out.trans (hb.mono B.out.size))
  clear F P B
  have F := F_
  have P := P_
  have B := B_
  clear F_ P_ B_
  clear hb
  have HSQ : Hid (∀ t ∈ e.q, t.size ≤ 1048576) := hsq
  have HSO : Hid (∀ t ∈ e.o, t.size ≤ 1048576) := hso
  clear hf hsq hso
  obtain ⟨P0, P1, P2⟩ := P.out.cells
  go_wp2_with fail
  clear hd
  refine (szParcel_any num ack s r w1 (by omega) hs0).mono ?_
  rintro r_ w2 ⟨hr | ⟨n, hr, hf⟩, hb⟩
  · subst hr
    have BB : Hid (Below w.heap.size w w2) := B.out.trans (hb.mono B.out.size)
    clear hb
    go_wp2_with fail
    go_ret
    exact ⟨rfl, BB.out⟩
  subst hr
  have hsz : s.size ≤ 1048576 := by have := hf.out; omega
  have hd : decide ((n : Int) < 0) = false := by simp
  have z2 : w1.heap.size ≤ w2.heap.size := hb.size
  clear P0 P1 P2 
  have F_ : Hid (EndC w2 45 w.heap.size e.nx e.ak (.slice qa e.q.length qc) e.gt (.slice oa e.o.length oc)) := (F.out.below hb)
  have P_ : Hid (PcC w2 54 (w.heap.size + 1) num ack s) := (P.out.below hb)
  have B_ : Hid (Below w.heap.size w w2) := (B.out.trans (hb.mono B.out.size))
  clear F P B
  have F := F_
  have P := P_
  have B := B_
  clear F_ P_ B_
  clear hb hf
  obtain ⟨f, hfe⟩ : ∃ f : En, f = rcvF e (num, ack, s) := ⟨_, rfl⟩
  obtain ⟨b, hbe⟩ : ∃ b : Bool, b = rcvB e (num, ack, s) := ⟨_, rfl⟩
  have fl : f.q.length ≤ 1048577 ∧ f.o.length ≤ 1048577 ∧ f.q.length + f.o.length ≤ 1048577 := by have := rcvF_len e (num, ack, s); rw [hfe]; omega
  have HFE : Hid (f = rcvF e (num, ack, s)) := hfe
  have HBE : Hid (b = rcvB e (num, ack, s)) := hbe
  obtain ⟨fl1, fl2, fl3⟩ := fl
  clear hfe hbe
  go_wp2_with fail
  clear hd
  go_cut [6, 7] (fun u6_ u7_ wx => BoxR w2 wx u6_ u7_ f b)
  case first =>
    have hPc := P.out
    have hFc := F.out
    have keepS : ∀ w', Below w2.heap.size w2 w' → (w'.cell? ⟨w.heap.size, 0, none⟩ = some (.int .i64 e.nx) ∧ w'.cell? ⟨w.heap.size, 1, none⟩ = some (.int .i64 e.ak) ∧ w'.cell? ⟨w.heap.size, 2, none⟩ = some (.slice qa e.q.length qc) ∧ w'.cell? ⟨w.heap.size, 3, none⟩ = some (.int .i64 e.gt) ∧ w'.cell? ⟨w.heap.size, 4, none⟩ = some (.slice oa e.o.length oc) ∧ w'.cell? ⟨w.heap.size + 1, 0, none⟩ = some (.int .i64 num) ∧ w'.cell? ⟨w.heap.size + 1, 1, none⟩ = some (.int .i64 ack) ∧ w'.cell? ⟨w.heap.size + 1, 2, none⟩ = some (.string s)) := fun w' hb => flat8 (hFc.below hb).cells (hPc.below hb).cells
    have B0d : Below w2.heap.size w2 w2.drew := (Below.refl _ _).drew
    have B0a : ∀ o : Obj, Below w2.heap.size w2 (w2.alloc o).drew := fun o => ((Below.refl _ _).alloc (Nat.le_refl _) o).drew
    have hgB : Below w.heap.size w w2 := B.out
    go_region_held3 (fun w' => (w'.cell? ⟨w.heap.size, 0, none⟩ = some (.int .i64 e.nx) ∧ w'.cell? ⟨w.heap.size, 1, none⟩ = some (.int .i64 e.ak) ∧ w'.cell? ⟨w.heap.size, 2, none⟩ = some (.slice qa e.q.length qc) ∧ w'.cell? ⟨w.heap.size, 3, none⟩ = some (.int .i64 e.gt) ∧ w'.cell? ⟨w.heap.size, 4, none⟩ = some (.slice oa e.o.length oc) ∧ w'.cell? ⟨w.heap.size + 1, 0, none⟩ = some (.int .i64 num) ∧ w'.cell? ⟨w.heap.size + 1, 1, none⟩ = some (.int .i64 ack) ∧ w'.cell? ⟨w.heap.size + 1, 2, none⟩ = some (.string s)))
    (first | with_reducible exact keepS _ (fill5 B9 (by omega) _ _ _ _ _) | with_reducible exact keepS _ (B9.alloc B9.size _) | with_reducible exact keepS _ B9 | with_reducible exact keepS _ (B8.alloc B8.size _) | with_reducible exact keepS _ B8 | with_reducible exact keepS _ (B7.alloc B7.size _) | with_reducible exact keepS _ B7 | with_reducible exact keepS _ (B0a _) | with_reducible exact keepS _ B0d)
    (first
      | (go_at_call 26; refine (toEndB hg hgB (by omega) (by omega) _ (by first | with_reducible exact B0d | with_reducible exact B0a _)).mono ?_; rintro r_ w7 ⟨y, rfl, m7, hb7, B7⟩; have z7 : w2.heap.size ≤ w7.heap.size := B7.size; (first | (with_reducible have X7 : EndC w7 32 w2.heap.size 0 0 (.slice none 0 0) 0 (.slice none 0 0) := (EndC.drew (EndC.new w2 32 0 0 0 (.slice none 0 0) (.slice none 0 0))).below hb7) | skip))
      | (go_at_call 37; refine (toParcelB num ack s w2 _ (by first | with_reducible exact B7 | with_reducible exact B7.alloc B7.size _)).mono ?_; rintro r_ w8 ⟨rfl, hb8, B8⟩; have z8 : w2.heap.size ≤ w8.heap.size := B8.size; (first | (with_reducible have X8 : EndC w8 32 w7.heap.size 0 0 (.slice none 0 0) 0 (.slice none 0 0) := (EndC.new w7 32 0 0 0 (.slice none 0 0) (.slice none 0 0)).below hb8) | (with_reducible have X8 := X7.below hb8) | skip); (first | (with_reducible have r8 := (m7.r).stays hb8) | (with_reducible have r8 := ((m7.r).stays ((Below.refl _ _).alloc (Nat.le_refl _) _)).stays hb8)))
      | (go_at_call 23; refine (spReceiveB (e := e) num ack s (by omega) (by omega) w2 _ (by first | with_reducible exact B8 | with_reducible exact B8.alloc B8.size _) (by first | with_reducible exact r8 | with_reducible exact r8.stays ((Below.refl _ _).alloc (Nat.le_refl _) _)) HFE HBE).mono ?_; rintro r_ w9 ⟨v9, rfl, m9, hb9, B9⟩; (first | (with_reducible have X9 : EndC w9 32 w8.heap.size 0 0 (.slice none 0 0) 0 (.slice none 0 0) := (EndC.new w8 32 0 0 0 (.slice none 0 0) (.slice none 0 0)).below hb9) | (with_reducible have X9 := X8.below hb9) | skip); obtain ⟨va, vc, vb, vd, rfl⟩ := endM_form m9; (try (obtain ⟨x0, x1, x2, x3, x4⟩ := X9.cells; have k0 := X9.frozen 0; have k1 := X9.frozen 1; have k2 := X9.frozen 2; have k3 := X9.frozen 3; have k4 := X9.frozen 4))))
    all_goals clear keepS
    all_goals (try go_wp2_with fail)
    all_goals go_meet
    all_goals first | with_reducible exact boxLate B9 m9 (by first | exact B8.size | omega) | with_reducible exact boxEarly B9 X9 m9 (by simp) (by omega) | with_reducible exact boxEarly B9 X9 m9 X8.lt (by omega)
  case rest =>
    obtain ⟨rfl, hb, pW, loW, hiW, ka, kc, kb, kd, rfl, cx, ix, hpW1, hpW2, hpW3, hpW4⟩ := hcut
    generalize wc = w3 at *
    have z3 : w2.heap.size ≤ w3.heap.size := hb.size
    have hiW1 : hiW ≤ w3.heap.size := ix.le
    have F_ : Hid (EndC w3 45 w.heap.size e.nx e.ak (.slice qa e.q.length qc) e.gt (.slice oa e.o.length oc)) := (F.out.below hb)
    have P_ : Hid (PcC w3 54 (w.heap.size + 1) num ack s) := (P.out.below hb)
    have B_ : Hid (Below w.heap.size w w3) := (B.out.trans (hb.mono B.out.size))
    clear F P B
    have F := F_
    have P := P_
    have B := B_
    clear F_ P_ B_
    have CW : Hid (EndC w3 32 pW f.nx f.ak (.slice ka f.q.length kc) f.gt (.slice kb f.o.length kd)) := cx
    have IW : Hid (EndI w3 loW hiW (.agg #[.int .i64 f.nx, .int .i64 f.ak, .slice ka f.q.length kc, .int .i64 f.gt, .slice kb f.o.length kd]) f) := ix
    clear cx ix hb
    obtain ⟨F0, F1, F2, F3, F4⟩ := F.out.cells
    go_wp2_with fail
    refine (toEnd_any e.nx e.ak e.gt qa oa qc oc e.q e.o w3 (show Hid (TextsAt _ _ _) from hg.out.tq.stays B.out) (show Hid (TextsAt _ _ _) from hg.out.to.stays B.out) (by omega) (by omega)).mono ?_
    rintro r_ w4 ⟨v_, rfl, m_, hb⟩
    have z4 : w3.heap.size ≤ w4.heap.size := hb.size
    clear F0 F1 F2 F3 F4 
    have F_ : Hid (EndC w4 45 w.heap.size e.nx e.ak (.slice qa e.q.length qc) e.gt (.slice oa e.o.length oc)) := (F.out.below hb)
    have P_ : Hid (PcC w4 54 (w.heap.size + 1) num ack s) := (P.out.below hb)
    have B_ : Hid (Below w.heap.size w w4) := (B.out.trans (hb.mono B.out.size))
    have CW_ : Hid (EndC w4 32 pW f.nx f.ak (.slice ka f.q.length kc) f.gt (.slice kb f.o.length kd)) := (CW.out.below hb)
    have IW_ : Hid (EndI w4 loW hiW (.agg #[.int .i64 f.nx, .int .i64 f.ak, .slice ka f.q.length kc, .int .i64 f.gt, .slice kb f.o.length kd]) f) := (IW.out.below hb)
    clear F P B CW IW
    have F := F_
    have P := P_
    have B := B_
    have CW := CW_
    have IW := IW_
    clear F_ P_ B_ CW_ IW_
    obtain ⟨xa, xc, xb, xd, rfl⟩ := endM_form m_
    have ix : EndI w4 w3.heap.size w4.heap.size (.agg #[.int .i64 e.nx, .int .i64 e.ak, .slice xa e.q.length xc, .int .i64 e.gt, .slice xb e.o.length xd]) e := EndI.new m_
    clear m_ hb
    dsimp only at ix ⊢
    have bx : Below w4.heap.size w4 (w4.alloc (Obj.cells #[Value.int IntKind.i64 e.nx, Value.int IntKind.i64 e.ak, Value.slice xa e.q.length xc, Value.int IntKind.i64 e.gt, Value.slice xb e.o.length xd] 32)) := (Below.refl _ _).alloc (Nat.le_refl _) _
    have cx := EndC.new w4 32 e.nx e.ak e.gt (.slice xa e.q.length xc) (.slice xb e.o.length xd)
    have z5 : (w4.alloc (Obj.cells #[Value.int IntKind.i64 e.nx, Value.int IntKind.i64 e.ak, Value.slice xa e.q.length xc, Value.int IntKind.i64 e.gt, Value.slice xb e.o.length xd] 32)).heap.size = w4.heap.size + 1 := by simp
    have F_ : Hid (EndC (w4.alloc (Obj.cells #[Value.int IntKind.i64 e.nx, Value.int IntKind.i64 e.ak, Value.slice xa e.q.length xc, Value.int IntKind.i64 e.gt, Value.slice xb e.o.length xd] 32)) 45 w.heap.size e.nx e.ak (.slice qa e.q.length qc) e.gt (.slice oa e.o.length oc)) := (F.out.below bx)
    have P_ : Hid (PcC (w4.alloc (Obj.cells #[Value.int IntKind.i64 e.nx, Value.int IntKind.i64 e.ak, Value.slice xa e.q.length xc, Value.int IntKind.i64 e.gt, Value.slice xb e.o.length xd] 32)) 54 (w.heap.size + 1) num ack s) := (P.out.below bx)
    have B_ : Hid (Below w.heap.size w (w4.alloc (Obj.cells #[Value.int IntKind.i64 e.nx, Value.int IntKind.i64 e.ak, Value.slice xa e.q.length xc, Value.int IntKind.i64 e.gt, Value.slice xb e.o.length xd] 32))) := (B.out.trans (bx.mono B.out.size))
    have CW_ : Hid (EndC (w4.alloc (Obj.cells #[Value.int IntKind.i64 e.nx, Value.int IntKind.i64 e.ak, Value.slice xa e.q.length xc, Value.int IntKind.i64 e.gt, Value.slice xb e.o.length xd] 32)) 32 pW f.nx f.ak (.slice ka f.q.length kc) f.gt (.slice kb f.o.length kd)) := (CW.out.below bx)
    have IW_ : Hid (EndI (w4.alloc (Obj.cells #[Value.int IntKind.i64 e.nx, Value.int IntKind.i64 e.ak, Value.slice xa e.q.length xc, Value.int IntKind.i64 e.gt, Value.slice xb e.o.length xd] 32)) loW hiW (.agg #[.int .i64 f.nx, .int .i64 f.ak, .slice ka f.q.length kc, .int .i64 f.gt, .slice kb f.o.length kd]) f) := (IW.out.below bx)
    clear F P B CW IW
    have F := F_
    have P := P_
    have B := B_
    have CW := CW_
    have IW := IW_
    clear F_ P_ B_ CW_ IW_
    have CX : Hid (EndC (w4.alloc (Obj.cells #[Value.int IntKind.i64 e.nx, Value.int IntKind.i64 e.ak, Value.slice xa e.q.length xc, Value.int IntKind.i64 e.gt, Value.slice xb e.o.length xd] 32)) 32 w4.heap.size e.nx e.ak (.slice xa e.q.length xc) e.gt (.slice xb e.o.length xd)) := cx
    have IX : Hid (EndI (w4.alloc (Obj.cells #[Value.int IntKind.i64 e.nx, Value.int IntKind.i64 e.ak, Value.slice xa e.q.length xc, Value.int IntKind.i64 e.gt, Value.slice xb e.o.length xd] 32)) w3.heap.size w4.heap.size (.agg #[.int .i64 e.nx, .int .i64 e.ak, .slice xa e.q.length xc, .int .i64 e.gt, .slice xb e.o.length xd]) e) := EndI.below ix bx
    clear cx ix bx
    go_wp2_with fail
    generalize (w4.alloc (Obj.cells #[Value.int IntKind.i64 e.nx, Value.int IntKind.i64 e.ak, Value.slice xa e.q.length xc, Value.int IntKind.i64 e.gt, Value.slice xb e.o.length xd] 32)) = w5 at *
    replace z5 : w4.heap.size + 1 ≤ w5.heap.size := by omega
    go_cut [9, 10] (fun u9_ u10_ wx => BoxR w5 wx u9_ u10_ f b)
    case first =>
      have hPc := P.out
      have hFc := CX.out
      have hXr : EndR w5 _ e := IX.out.r
      have keepS : ∀ w', Below w5.heap.size w5 w' → (w'.cell? ⟨w4.heap.size, 0, none⟩ = some (.int .i64 e.nx) ∧ w'.cell? ⟨w4.heap.size, 1, none⟩ = some (.int .i64 e.ak) ∧ w'.cell? ⟨w4.heap.size, 2, none⟩ = some (.slice xa e.q.length xc) ∧ w'.cell? ⟨w4.heap.size, 3, none⟩ = some (.int .i64 e.gt) ∧ w'.cell? ⟨w4.heap.size, 4, none⟩ = some (.slice xb e.o.length xd) ∧ w'.cell? ⟨w.heap.size + 1, 0, none⟩ = some (.int .i64 num) ∧ w'.cell? ⟨w.heap.size + 1, 1, none⟩ = some (.int .i64 ack) ∧ w'.cell? ⟨w.heap.size + 1, 2, none⟩ = some (.string s)) := fun w' hb => flat8 (hFc.below hb).cells (hPc.below hb).cells
      have B0d : Below w5.heap.size w5 w5.drew := (Below.refl _ _).drew
      have B0a : ∀ o : Obj, Below w5.heap.size w5 (w5.alloc o).drew := fun o => ((Below.refl _ _).alloc (Nat.le_refl _) o).drew
      have hgB : Below w.heap.size w w5 := B.out
      go_region_held3 (fun w' => (w'.cell? ⟨w4.heap.size, 0, none⟩ = some (.int .i64 e.nx) ∧ w'.cell? ⟨w4.heap.size, 1, none⟩ = some (.int .i64 e.ak) ∧ w'.cell? ⟨w4.heap.size, 2, none⟩ = some (.slice xa e.q.length xc) ∧ w'.cell? ⟨w4.heap.size, 3, none⟩ = some (.int .i64 e.gt) ∧ w'.cell? ⟨w4.heap.size, 4, none⟩ = some (.slice xb e.o.length xd) ∧ w'.cell? ⟨w.heap.size + 1, 0, none⟩ = some (.int .i64 num) ∧ w'.cell? ⟨w.heap.size + 1, 1, none⟩ = some (.int .i64 ack) ∧ w'.cell? ⟨w.heap.size + 1, 2, none⟩ = some (.string s)))
      (first | with_reducible exact keepS _ (fill5 B9 (by omega) _ _ _ _ _) | with_reducible exact keepS _ (B9.alloc B9.size _) | with_reducible exact keepS _ B9 | with_reducible exact keepS _ (B8.alloc B8.size _) | with_reducible exact keepS _ B8 | with_reducible exact keepS _ (B7.alloc B7.size _) | with_reducible exact keepS _ B7 | with_reducible exact keepS _ (B0a _) | with_reducible exact keepS _ B0d)
      (first
        | (go_at_call 37; refine (toParcelB num ack s w5 _ (by first | with_reducible exact B0d | with_reducible exact B0a _)).mono ?_; rintro r_ w8 ⟨rfl, hb8, B8⟩; have z8 : w5.heap.size ≤ w8.heap.size := B8.size; (first | (with_reducible have X8 : EndC w8 32 w5.heap.size 0 0 (.slice none 0 0) 0 (.slice none 0 0) := (EndC.drew (EndC.new w5 32 0 0 0 (.slice none 0 0) (.slice none 0 0))).below hb8) | skip); have r8 := hXr.stays B8)
        | (go_at_call 20; refine (receiveB (e := e) num ack s (by omega) (by omega) HSQ HSO (by omega) w5 _ (by first | with_reducible exact B8 | with_reducible exact B8.alloc B8.size _) (by first | with_reducible exact r8 | with_reducible exact r8.stays ((Below.refl _ _).alloc (Nat.le_refl _) _)) HFE HBE).mono ?_; rintro r_ w9 ⟨v9, rfl, m9, hb9, B9⟩; (first | (with_reducible have X9 : EndC w9 32 w8.heap.size 0 0 (.slice none 0 0) 0 (.slice none 0 0) := (EndC.new w8 32 0 0 0 (.slice none 0 0) (.slice none 0 0)).below hb9) | (with_reducible have X9 := X8.below hb9) | skip); obtain ⟨va, vc, vb, vd, rfl⟩ := endM_form m9; (try (obtain ⟨x0, x1, x2, x3, x4⟩ := X9.cells; have k0 := X9.frozen 0; have k1 := X9.frozen 1; have k2 := X9.frozen 2; have k3 := X9.frozen 3; have k4 := X9.frozen 4))))
      all_goals clear keepS
      all_goals (try go_wp2_with fail)
      all_goals go_meet
      all_goals first | with_reducible exact boxLate B9 m9 (by first | exact B8.size | omega) | with_reducible exact boxEarly B9 X9 m9 (by simp) (by omega) | with_reducible exact boxEarly B9 X9 m9 X8.lt (by omega)
    case rest =>
      obtain ⟨rfl, hb, pG, loG, hiG, ga, gc, gb, gd, rfl, cx, ix, hpG1, hpG2, hpG3, hpG4⟩ := hcut
      generalize wc = w6 at *
      have z6 : w5.heap.size ≤ w6.heap.size := hb.size
      have hiG1 : hiG ≤ w6.heap.size := ix.le
      have F_ : Hid (EndC w6 45 w.heap.size e.nx e.ak (.slice qa e.q.length qc) e.gt (.slice oa e.o.length oc)) := (F.out.below hb)
      have P_ : Hid (PcC w6 54 (w.heap.size + 1) num ack s) := (P.out.below hb)
      have B_ : Hid (Below w.heap.size w w6) := (B.out.trans (hb.mono B.out.size))
      have CW_ : Hid (EndC w6 32 pW f.nx f.ak (.slice ka f.q.length kc) f.gt (.slice kb f.o.length kd)) := (CW.out.below hb)
      have IW_ : Hid (EndI w6 loW hiW (.agg #[.int .i64 f.nx, .int .i64 f.ak, .slice ka f.q.length kc, .int .i64 f.gt, .slice kb f.o.length kd]) f) := (IW.out.below hb)
      have CX_ : Hid (EndC w6 32 w4.heap.size e.nx e.ak (.slice xa e.q.length xc) e.gt (.slice xb e.o.length xd)) := (CX.out.below hb)
      have IX_ : Hid (EndI w6 w3.heap.size w4.heap.size (.agg #[.int .i64 e.nx, .int .i64 e.ak, .slice xa e.q.length xc, .int .i64 e.gt, .slice xb e.o.length xd]) e) := (IX.out.below hb)
      clear F P B CW IW CX IX
      have F := F_
      have P := P_
      have B := B_
      have CW := CW_
      have IW := IW_
      have CX := CX_
      have IX := IX_
      clear F_ P_ B_ CW_ IW_ CX_ IX_
      have CG : Hid (EndC w6 32 pG f.nx f.ak (.slice ga f.q.length gc) f.gt (.slice gb f.o.length gd)) := cx
      have IG : Hid (EndI w6 loG hiG (.agg #[.int .i64 f.nx, .int .i64 f.ak, .slice ga f.q.length gc, .int .i64 f.gt, .slice gb f.o.length gd]) f) := ix
      clear cx ix hb
      obtain ⟨CG0, CG1, CG2, CG3, CG4⟩ := CG.out.cells
      obtain ⟨CW0, CW1, CW2, CW3, CW4⟩ := CW.out.cells
      go_wp2_with fail
      refine (eqEnd_same (e := f) w6 IG.out.r IW.out.r (by omega) (by omega)).mono ?_
      rintro r_ w7 ⟨rfl, hb⟩
      have z7 : w6.heap.size ≤ w7.heap.size := hb.size
      clear CG0 CG1 CG2 CG3 CG4 CW0 CW1 CW2 CW3 CW4 
      have F_ : Hid (EndC w7 45 w.heap.size e.nx e.ak (.slice qa e.q.length qc) e.gt (.slice oa e.o.length oc)) := (F.out.below hb)
      have P_ : Hid (PcC w7 54 (w.heap.size + 1) num ack s) := (P.out.below hb)
      have B_ : Hid (Below w.heap.size w w7) := (B.out.trans (hb.mono B.out.size))
      have CW_ : Hid (EndC w7 32 pW f.nx f.ak (.slice ka f.q.length kc) f.gt (.slice kb f.o.length kd)) := (CW.out.below hb)
      have IW_ : Hid (EndI w7 loW hiW (.agg #[.int .i64 f.nx, .int .i64 f.ak, .slice ka f.q.length kc, .int .i64 f.gt, .slice kb f.o.length kd]) f) := (IW.out.below hb)
      have CX_ : Hid (EndC w7 32 w4.heap.size e.nx e.ak (.slice xa e.q.length xc) e.gt (.slice xb e.o.length xd)) := (CX.out.below hb)
      have IX_ : Hid (EndI w7 w3.heap.size w4.heap.size (.agg #[.int .i64 e.nx, .int .i64 e.ak, .slice xa e.q.length xc, .int .i64 e.gt, .slice xb e.o.length xd]) e) := (IX.out.below hb)
      have CG_ : Hid (EndC w7 32 pG f.nx f.ak (.slice ga f.q.length gc) f.gt (.slice gb f.o.length gd)) := (CG.out.below hb)
      have IG_ : Hid (EndI w7 loG hiG (.agg #[.int .i64 f.nx, .int .i64 f.ak, .slice ga f.q.length gc, .int .i64 f.gt, .slice gb f.o.length gd]) f) := (IG.out.below hb)
      clear F P B CW IW CX IX CG IG
      have F := F_
      have P := P_
      have B := B_
      have CW := CW_
      have IW := IW_
      have CX := CX_
      have IX := IX_
      have CG := CG_
      have IG := IG_
      clear F_ P_ B_ CW_ IW_ CX_ IX_ CG_ IG_
      clear hb
      go_wp2_with fail
      go_region_held3 (fun w' => w'.cell? ⟨w4.heap.size, 0, none⟩ = some (.int .i64 e.nx) ∧ w'.cell? ⟨w4.heap.size, 1, none⟩ = some (.int .i64 e.ak) ∧ w'.cell? ⟨w4.heap.size, 2, none⟩ = some (.slice xa e.q.length xc) ∧ w'.cell? ⟨w4.heap.size, 3, none⟩ = some (.int .i64 e.gt) ∧ w'.cell? ⟨w4.heap.size, 4, none⟩ = some (.slice xb e.o.length xd) ∧ w'.cell? ⟨w.heap.size, 0, none⟩ = some (.int .i64 e.nx) ∧ w'.cell? ⟨w.heap.size, 1, none⟩ = some (.int .i64 e.ak) ∧ w'.cell? ⟨w.heap.size, 2, none⟩ = some (.slice qa e.q.length qc) ∧ w'.cell? ⟨w.heap.size, 3, none⟩ = some (.int .i64 e.gt) ∧ w'.cell? ⟨w.heap.size, 4, none⟩ = some (.slice oa e.o.length oc)) (first | exact flat10 x8.cells f8.cells | exact flat10 x7.cells f7.cells | exact flat10 CX.out.cells F.out.cells)
        (first | (go_at_call 26; refine (toEnd_any e.nx e.ak e.gt qa oa qc oc e.q e.o _ (show Hid (TextsAt _ _ _) from hg.out.tq.stays B.out.drew) (show Hid (TextsAt _ _ _) from hg.out.to.stays B.out.drew) (by omega) (by omega)).mono ?_; rintro r_ w8 ⟨y, rfl, m7, hb7⟩; have x7 := EndC.below (show EndC w7.drew _ _ _ _ _ _ _ from CX.out) hb7; have f7 := EndC.below (show EndC w7.drew _ _ _ _ _ _ _ from F.out) hb7) | (go_at_call 27; refine (eqEnd_same (e := e) _ (EndM.r (EndM.stays (show EndM w7.drew _ _ _ from IX.out.own) hb7)) m7.r (by omega) (by omega)).mono ?_; rintro r_ w9 ⟨rfl, hb8⟩; have x8 := x7.below hb8; have f8 := f7.below hb8))
      have hb : Below w7.heap.size w7 w9 := ((Below.refl _ _).drew.trans (show Below w7.heap.size _ w8 from hb7)).trans (hb8.mono (show w7.heap.size ≤ w8.heap.size from hb7.size))
      have z9 : w7.heap.size ≤ w9.heap.size := hb.size
      clear x7 f7 x8 f8 m7 hb7 hb8
      have F_ : Hid (EndC w9 45 w.heap.size e.nx e.ak (.slice qa e.q.length qc) e.gt (.slice oa e.o.length oc)) := (F.out.below hb)
      have P_ : Hid (PcC w9 54 (w.heap.size + 1) num ack s) := (P.out.below hb)
      have B_ : Hid (Below w.heap.size w w9) := (B.out.trans (hb.mono B.out.size))
      have CW_ : Hid (EndC w9 32 pW f.nx f.ak (.slice ka f.q.length kc) f.gt (.slice kb f.o.length kd)) := (CW.out.below hb)
      have IW_ : Hid (EndI w9 loW hiW (.agg #[.int .i64 f.nx, .int .i64 f.ak, .slice ka f.q.length kc, .int .i64 f.gt, .slice kb f.o.length kd]) f) := (IW.out.below hb)
      have CX_ : Hid (EndC w9 32 w4.heap.size e.nx e.ak (.slice xa e.q.length xc) e.gt (.slice xb e.o.length xd)) := (CX.out.below hb)
      have IX_ : Hid (EndI w9 w3.heap.size w4.heap.size (.agg #[.int .i64 e.nx, .int .i64 e.ak, .slice xa e.q.length xc, .int .i64 e.gt, .slice xb e.o.length xd]) e) := (IX.out.below hb)
      have CG_ : Hid (EndC w9 32 pG f.nx f.ak (.slice ga f.q.length gc) f.gt (.slice gb f.o.length gd)) := (CG.out.below hb)
      have IG_ : Hid (EndI w9 loG hiG (.agg #[.int .i64 f.nx, .int .i64 f.ak, .slice ga f.q.length gc, .int .i64 f.gt, .slice gb f.o.length gd]) f) := (IG.out.below hb)
      clear F P B CW IW CX IX CG IG
      have F := F_
      have P := P_
      have B := B_
      have CW := CW_
      have IW := IW_
      have CX := CX_
      have IX := IX_
      have CG := CG_
      have IG := IG_
      clear F_ P_ B_ CW_ IW_ CX_ IX_ CG_ IG_
      clear hb
      obtain ⟨CX0, CX1, CX2, CX3, CX4⟩ := CX.out.cells
      go_wp2_with fail
      refine (mark_I w9 IX.out (by omega)).mono ?_
      rintro r_ w10 ⟨rfl, hgr, f1, hq1, hq2, hm1, hm2, ix⟩
      have z10 : w9.heap.size ≤ w10.heap.size := hgr.size
      clear IX hm1 hm2 ix hq1 hq2 f1
      clear CX0 CX1 CX2 CX3 CX4 
      have F_ : Hid (EndC w10 45 w.heap.size e.nx e.ak (.slice qa e.q.length qc) e.gt (.slice oa e.o.length oc)) := (F.out.gr hgr (by omega))
      have P_ : Hid (PcC w10 54 (w.heap.size + 1) num ack s) := (P.out.gri hgr (by omega))
      have B_ : Hid (Below w.heap.size w w10) := (GrI.below' B.out hgr (by omega) (by omega))
      have CW_ : Hid (EndC w10 32 pW f.nx f.ak (.slice ka f.q.length kc) f.gt (.slice kb f.o.length kd)) := (CW.out.gr hgr (by omega))
      have IW_ : Hid (EndI w10 loW hiW (.agg #[.int .i64 f.nx, .int .i64 f.ak, .slice ka f.q.length kc, .int .i64 f.gt, .slice kb f.o.length kd]) f) := (IW.out.gr hgr (by omega))
      have CX_ : Hid (EndC w10 32 w4.heap.size e.nx e.ak (.slice xa e.q.length xc) e.gt (.slice xb e.o.length xd)) := (CX.out.gr hgr (by omega))
      have CG_ : Hid (EndC w10 32 pG f.nx f.ak (.slice ga f.q.length gc) f.gt (.slice gb f.o.length gd)) := (CG.out.gr hgr (by omega))
      have IG_ : Hid (EndI w10 loG hiG (.agg #[.int .i64 f.nx, .int .i64 f.ak, .slice ga f.q.length gc, .int .i64 f.gt, .slice gb f.o.length gd]) f) := (IG.out.gr hgr (by omega))
      clear F P B CW IW CX CG IG
      have F := F_
      have P := P_
      have B := B_
      have CW := CW_
      have IW := IW_
      have CX := CX_
      have CG := CG_
      have IG := IG_
      clear F_ P_ B_ CW_ IW_ CX_ CG_ IG_
      clear hgr
      have hk : decide (((1 + e.q.length + e.o.length : Nat) : Int) < 0) = false := by simp; omega
      obtain ⟨CG0, CG1, CG2, CG3, CG4⟩ := CG.out.cells
      obtain ⟨CW0, CW1, CW2, CW3, CW4⟩ := CW.out.cells
      go_wp2_with fail
      clear hk
      refine (eqEnd_same (e := f) w10 IG.out.r IW.out.r (by omega) (by omega)).mono ?_
      rintro r_ w11 ⟨rfl, hb⟩
      have z11 : w10.heap.size ≤ w11.heap.size := hb.size
      clear CG0 CG1 CG2 CG3 CG4 CW0 CW1 CW2 CW3 CW4 
      have F_ : Hid (EndC w11 45 w.heap.size e.nx e.ak (.slice qa e.q.length qc) e.gt (.slice oa e.o.length oc)) := (F.out.below hb)
      have P_ : Hid (PcC w11 54 (w.heap.size + 1) num ack s) := (P.out.below hb)
      have B_ : Hid (Below w.heap.size w w11) := (B.out.trans (hb.mono B.out.size))
      have CW_ : Hid (EndC w11 32 pW f.nx f.ak (.slice ka f.q.length kc) f.gt (.slice kb f.o.length kd)) := (CW.out.below hb)
      have IW_ : Hid (EndI w11 loW hiW (.agg #[.int .i64 f.nx, .int .i64 f.ak, .slice ka f.q.length kc, .int .i64 f.gt, .slice kb f.o.length kd]) f) := (IW.out.below hb)
      have CX_ : Hid (EndC w11 32 w4.heap.size e.nx e.ak (.slice xa e.q.length xc) e.gt (.slice xb e.o.length xd)) := (CX.out.below hb)
      have CG_ : Hid (EndC w11 32 pG f.nx f.ak (.slice ga f.q.length gc) f.gt (.slice gb f.o.length gd)) := (CG.out.below hb)
      have IG_ : Hid (EndI w11 loG hiG (.agg #[.int .i64 f.nx, .int .i64 f.ak, .slice ga f.q.length gc, .int .i64 f.gt, .slice gb f.o.length gd]) f) := (IG.out.below hb)
      clear F P B CW IW CX CG IG
      have F := F_
      have P := P_
      have B := B_
      have CW := CW_
      have IW := IW_
      have CX := CX_
      have CG := CG_
      have IG := IG_
      clear F_ P_ B_ CW_ IW_ CX_ CG_ IG_
      clear hb
      obtain ⟨CG0, CG1, CG2, CG3, CG4⟩ := CG.out.cells
      go_wp2_with fail
      refine (mark_I w11 IG.out (by omega)).mono ?_
      rintro r_ w12 ⟨rfl, hgr, f1, hq1, hq2, hm1, hm2, ix⟩
      have z12 : w11.heap.size ≤ w12.heap.size := hgr.size
      have HM1 : Hid (Marked f1.q 1 f1.q.length) := hm1
      have HM2 : Hid (Marked f1.o (1 + f1.q.length) f1.o.length) := hm2
      clear IG hm1 hm2
      clear CG0 CG1 CG2 CG3 CG4 
      have F_ : Hid (EndC w12 45 w.heap.size e.nx e.ak (.slice qa e.q.length qc) e.gt (.slice oa e.o.length oc)) := (F.out.gr hgr (by omega))
      have P_ : Hid (PcC w12 54 (w.heap.size + 1) num ack s) := (P.out.gri hgr (by omega))
      have B_ : Hid (Below w.heap.size w w12) := (GrI.below' B.out hgr (by omega) (by omega))
      have CW_ : Hid (EndC w12 32 pW f.nx f.ak (.slice ka f.q.length kc) f.gt (.slice kb f.o.length kd)) := (CW.out.gr hgr (by omega))
      have IW_ : Hid (EndI w12 loW hiW (.agg #[.int .i64 f.nx, .int .i64 f.ak, .slice ka f.q.length kc, .int .i64 f.gt, .slice kb f.o.length kd]) f) := (IW.out.gr hgr (by omega))
      have CX_ : Hid (EndC w12 32 w4.heap.size e.nx e.ak (.slice xa e.q.length xc) e.gt (.slice xb e.o.length xd)) := (CX.out.gr hgr (by omega))
      have CG_ : Hid (EndC w12 32 pG f.nx f.ak (.slice ga f.q.length gc) f.gt (.slice gb f.o.length gd)) := (CG.out.gr hgr (by omega))
      clear F P B CW IW CX CG
      have F := F_
      have P := P_
      have B := B_
      have CW := CW_
      have IW := IW_
      have CX := CX_
      have CG := CG_
      clear F_ P_ B_ CW_ IW_ CX_ CG_
      clear hgr
      have IG : Hid (EndI w12 loG hiG (.agg #[.int .i64 f.nx, .int .i64 f.ak, .slice ga f.q.length gc, .int .i64 f.gt, .slice gb f.o.length gd]) f1) := ix
      clear ix
      obtain ⟨CG0, CG1, CG2, CG3, CG4⟩ := CG.out.cells
      go_wp2_with fail
      refine (held_I w12 IG.out f.q.length f.o.length hq1 hq2 (by omega) HM1.out HM2.out).mono ?_
      rintro r_ w13 ⟨rfl, hb⟩
      have z13 : w12.heap.size ≤ w13.heap.size := hb.size
      clear CG0 CG1 CG2 CG3 CG4 
      have F_ : Hid (EndC w13 45 w.heap.size e.nx e.ak (.slice qa e.q.length qc) e.gt (.slice oa e.o.length oc)) := (F.out.below hb)
      have P_ : Hid (PcC w13 54 (w.heap.size + 1) num ack s) := (P.out.below hb)
      have B_ : Hid (Below w.heap.size w w13) := (B.out.trans (hb.mono B.out.size))
      have CW_ : Hid (EndC w13 32 pW f.nx f.ak (.slice ka f.q.length kc) f.gt (.slice kb f.o.length kd)) := (CW.out.below hb)
      have IW_ : Hid (EndI w13 loW hiW (.agg #[.int .i64 f.nx, .int .i64 f.ak, .slice ka f.q.length kc, .int .i64 f.gt, .slice kb f.o.length kd]) f) := (IW.out.below hb)
      have CX_ : Hid (EndC w13 32 w4.heap.size e.nx e.ak (.slice xa e.q.length xc) e.gt (.slice xb e.o.length xd)) := (CX.out.below hb)
      have CG_ : Hid (EndC w13 32 pG f.nx f.ak (.slice ga f.q.length gc) f.gt (.slice gb f.o.length gd)) := (CG.out.below hb)
      have IG_ : Hid (EndI w13 loG hiG (.agg #[.int .i64 f.nx, .int .i64 f.ak, .slice ga f.q.length gc, .int .i64 f.gt, .slice gb f.o.length gd]) f1) := (IG.out.below hb)
      clear F P B CW IW CX CG IG
      have F := F_
      have P := P_
      have B := B_
      have CW := CW_
      have IW := IW_
      have CX := CX_
      have CG := CG_
      have IG := IG_
      clear F_ P_ B_ CW_ IW_ CX_ CG_ IG_
      clear hb
      have hk : decide (((1 + f.q.length + f.o.length : Nat) : Int) < 0) = false := by simp; omega
      go_wp2_with fail
      clear hk
      go_cut [14, 15] (fun u14_ u15_ wx => BoxR w13 wx u14_ u15_ f b)
      case first =>
        have hPc := P.out
        have hFc := F.out
        have keepS : ∀ w', Below w13.heap.size w13 w' → (w'.cell? ⟨w.heap.size, 0, none⟩ = some (.int .i64 e.nx) ∧ w'.cell? ⟨w.heap.size, 1, none⟩ = some (.int .i64 e.ak) ∧ w'.cell? ⟨w.heap.size, 2, none⟩ = some (.slice qa e.q.length qc) ∧ w'.cell? ⟨w.heap.size, 3, none⟩ = some (.int .i64 e.gt) ∧ w'.cell? ⟨w.heap.size, 4, none⟩ = some (.slice oa e.o.length oc) ∧ w'.cell? ⟨w.heap.size + 1, 0, none⟩ = some (.int .i64 num) ∧ w'.cell? ⟨w.heap.size + 1, 1, none⟩ = some (.int .i64 ack) ∧ w'.cell? ⟨w.heap.size + 1, 2, none⟩ = some (.string s)) := fun w' hb => flat8 (hFc.below hb).cells (hPc.below hb).cells
        have B0d : Below w13.heap.size w13 w13.drew := (Below.refl _ _).drew
        have B0a : ∀ o : Obj, Below w13.heap.size w13 (w13.alloc o).drew := fun o => ((Below.refl _ _).alloc (Nat.le_refl _) o).drew
        have hgB : Below w.heap.size w w13 := B.out
        go_region_held3 (fun w' => (w'.cell? ⟨w.heap.size, 0, none⟩ = some (.int .i64 e.nx) ∧ w'.cell? ⟨w.heap.size, 1, none⟩ = some (.int .i64 e.ak) ∧ w'.cell? ⟨w.heap.size, 2, none⟩ = some (.slice qa e.q.length qc) ∧ w'.cell? ⟨w.heap.size, 3, none⟩ = some (.int .i64 e.gt) ∧ w'.cell? ⟨w.heap.size, 4, none⟩ = some (.slice oa e.o.length oc) ∧ w'.cell? ⟨w.heap.size + 1, 0, none⟩ = some (.int .i64 num) ∧ w'.cell? ⟨w.heap.size + 1, 1, none⟩ = some (.int .i64 ack) ∧ w'.cell? ⟨w.heap.size + 1, 2, none⟩ = some (.string s)))
        (first | with_reducible exact keepS _ (fill5 B9 (by omega) _ _ _ _ _) | with_reducible exact keepS _ (B9.alloc B9.size _) | with_reducible exact keepS _ B9 | with_reducible exact keepS _ (B8.alloc B8.size _) | with_reducible exact keepS _ B8 | with_reducible exact keepS _ (B7.alloc B7.size _) | with_reducible exact keepS _ B7 | with_reducible exact keepS _ (B0a _) | with_reducible exact keepS _ B0d)
        (first
          | (go_at_call 26; refine (toEndB hg hgB (by omega) (by omega) _ (by first | with_reducible exact B0d | with_reducible exact B0a _)).mono ?_; rintro r_ w7 ⟨y, rfl, m7, hb7, B7⟩; have z7 : w13.heap.size ≤ w7.heap.size := B7.size; (first | (with_reducible have X7 : EndC w7 32 w13.heap.size 0 0 (.slice none 0 0) 0 (.slice none 0 0) := (EndC.drew (EndC.new w13 32 0 0 0 (.slice none 0 0) (.slice none 0 0))).below hb7) | skip))
          | (go_at_call 37; refine (toParcelB num ack s w13 _ (by first | with_reducible exact B7 | with_reducible exact B7.alloc B7.size _)).mono ?_; rintro r_ w8 ⟨rfl, hb8, B8⟩; have z8 : w13.heap.size ≤ w8.heap.size := B8.size; (first | (with_reducible have X8 : EndC w8 32 w7.heap.size 0 0 (.slice none 0 0) 0 (.slice none 0 0) := (EndC.new w7 32 0 0 0 (.slice none 0 0) (.slice none 0 0)).below hb8) | (with_reducible have X8 := X7.below hb8) | skip); (first | (with_reducible have r8 := (m7.r).stays hb8) | (with_reducible have r8 := ((m7.r).stays ((Below.refl _ _).alloc (Nat.le_refl _) _)).stays hb8)))
          | (go_at_call 20; refine (receiveB (e := e) num ack s (by omega) (by omega) HSQ HSO (by omega) w13 _ (by first | with_reducible exact B8 | with_reducible exact B8.alloc B8.size _) (by first | with_reducible exact r8 | with_reducible exact r8.stays ((Below.refl _ _).alloc (Nat.le_refl _) _)) HFE HBE).mono ?_; rintro r_ w9 ⟨v9, rfl, m9, hb9, B9⟩; (first | (with_reducible have X9 : EndC w9 32 w8.heap.size 0 0 (.slice none 0 0) 0 (.slice none 0 0) := (EndC.new w8 32 0 0 0 (.slice none 0 0) (.slice none 0 0)).below hb9) | (with_reducible have X9 := X8.below hb9) | skip); obtain ⟨va, vc, vb, vd, rfl⟩ := endM_form m9; (try (obtain ⟨x0, x1, x2, x3, x4⟩ := X9.cells; have k0 := X9.frozen 0; have k1 := X9.frozen 1; have k2 := X9.frozen 2; have k3 := X9.frozen 3; have k4 := X9.frozen 4))))
        all_goals clear keepS
        all_goals (try go_wp2_with fail)
        all_goals go_meet
        all_goals first | with_reducible exact boxLate B9 m9 (by first | exact B8.size | omega) | with_reducible exact boxEarly B9 X9 m9 (by simp) (by omega) | with_reducible exact boxEarly B9 X9 m9 X8.lt (by omega)
      case rest =>
        obtain ⟨rfl, hb, pH, loH, hiH, ua, uc, ub, ud, rfl, cx, ix, hpH1, hpH2, hpH3, hpH4⟩ := hcut
        generalize wc = w14 at *
        have z14 : w13.heap.size ≤ w14.heap.size := hb.size
        have hiH1 : hiH ≤ w14.heap.size := ix.le
        have F_ : Hid (EndC w14 45 w.heap.size e.nx e.ak (.slice qa e.q.length qc) e.gt (.slice oa e.o.length oc)) := (F.out.below hb)
        have P_ : Hid (PcC w14 54 (w.heap.size + 1) num ack s) := (P.out.below hb)
        have B_ : Hid (Below w.heap.size w w14) := (B.out.trans (hb.mono B.out.size))
        have CW_ : Hid (EndC w14 32 pW f.nx f.ak (.slice ka f.q.length kc) f.gt (.slice kb f.o.length kd)) := (CW.out.below hb)
        have IW_ : Hid (EndI w14 loW hiW (.agg #[.int .i64 f.nx, .int .i64 f.ak, .slice ka f.q.length kc, .int .i64 f.gt, .slice kb f.o.length kd]) f) := (IW.out.below hb)
        have CX_ : Hid (EndC w14 32 w4.heap.size e.nx e.ak (.slice xa e.q.length xc) e.gt (.slice xb e.o.length xd)) := (CX.out.below hb)
        have CG_ : Hid (EndC w14 32 pG f.nx f.ak (.slice ga f.q.length gc) f.gt (.slice gb f.o.length gd)) := (CG.out.below hb)
        have IG_ : Hid (EndI w14 loG hiG (.agg #[.int .i64 f.nx, .int .i64 f.ak, .slice ga f.q.length gc, .int .i64 f.gt, .slice gb f.o.length gd]) f1) := (IG.out.below hb)
        clear F P B CW IW CX CG IG
        have F := F_
        have P := P_
        have B := B_
        have CW := CW_
        have IW := IW_
        have CX := CX_
        have CG := CG_
        have IG := IG_
        clear F_ P_ B_ CW_ IW_ CX_ CG_ IG_
        have CH : Hid (EndC w14 32 pH f.nx f.ak (.slice ua f.q.length uc) f.gt (.slice ub f.o.length ud)) := cx
        have IH : Hid (EndI w14 loH hiH (.agg #[.int .i64 f.nx, .int .i64 f.ak, .slice ua f.q.length uc, .int .i64 f.gt, .slice ub f.o.length ud]) f) := ix
        clear cx ix hb
        obtain ⟨CH0, CH1, CH2, CH3, CH4⟩ := CH.out.cells
        obtain ⟨CW0, CW1, CW2, CW3, CW4⟩ := CW.out.cells
        go_wp2_with fail
        refine (eqEnd_same (e := f) w14 IH.out.r IW.out.r (by omega) (by omega)).mono ?_
        rintro r_ w15 ⟨rfl, hb⟩
        have z15 : w14.heap.size ≤ w15.heap.size := hb.size
        clear CH0 CH1 CH2 CH3 CH4 CW0 CW1 CW2 CW3 CW4 
        have F_ : Hid (EndC w15 45 w.heap.size e.nx e.ak (.slice qa e.q.length qc) e.gt (.slice oa e.o.length oc)) := (F.out.below hb)
        have P_ : Hid (PcC w15 54 (w.heap.size + 1) num ack s) := (P.out.below hb)
        have B_ : Hid (Below w.heap.size w w15) := (B.out.trans (hb.mono B.out.size))
        have CW_ : Hid (EndC w15 32 pW f.nx f.ak (.slice ka f.q.length kc) f.gt (.slice kb f.o.length kd)) := (CW.out.below hb)
        have IW_ : Hid (EndI w15 loW hiW (.agg #[.int .i64 f.nx, .int .i64 f.ak, .slice ka f.q.length kc, .int .i64 f.gt, .slice kb f.o.length kd]) f) := (IW.out.below hb)
        have CX_ : Hid (EndC w15 32 w4.heap.size e.nx e.ak (.slice xa e.q.length xc) e.gt (.slice xb e.o.length xd)) := (CX.out.below hb)
        have CG_ : Hid (EndC w15 32 pG f.nx f.ak (.slice ga f.q.length gc) f.gt (.slice gb f.o.length gd)) := (CG.out.below hb)
        have IG_ : Hid (EndI w15 loG hiG (.agg #[.int .i64 f.nx, .int .i64 f.ak, .slice ga f.q.length gc, .int .i64 f.gt, .slice gb f.o.length gd]) f1) := (IG.out.below hb)
        have CH_ : Hid (EndC w15 32 pH f.nx f.ak (.slice ua f.q.length uc) f.gt (.slice ub f.o.length ud)) := (CH.out.below hb)
        have IH_ : Hid (EndI w15 loH hiH (.agg #[.int .i64 f.nx, .int .i64 f.ak, .slice ua f.q.length uc, .int .i64 f.gt, .slice ub f.o.length ud]) f) := (IH.out.below hb)
        clear F P B CW IW CX CG IG CH IH
        have F := F_
        have P := P_
        have B := B_
        have CW := CW_
        have IW := IW_
        have CX := CX_
        have CG := CG_
        have IG := IG_
        have CH := CH_
        have IH := IH_
        clear F_ P_ B_ CW_ IW_ CX_ CG_ IG_ CH_ IH_
        clear hb
        obtain ⟨CG0, CG1, CG2, CG3, CG4⟩ := CG.out.cells
        go_wp2_with fail
        refine (held_I w15 IG.out f.q.length f.o.length hq1 hq2 (by omega) HM1.out HM2.out).mono ?_
        rintro r_ w16 ⟨rfl, hb⟩
        have z16 : w15.heap.size ≤ w16.heap.size := hb.size
        clear CG0 CG1 CG2 CG3 CG4 
        have F_ : Hid (EndC w16 45 w.heap.size e.nx e.ak (.slice qa e.q.length qc) e.gt (.slice oa e.o.length oc)) := (F.out.below hb)
        have P_ : Hid (PcC w16 54 (w.heap.size + 1) num ack s) := (P.out.below hb)
        have B_ : Hid (Below w.heap.size w w16) := (B.out.trans (hb.mono B.out.size))
        have CW_ : Hid (EndC w16 32 pW f.nx f.ak (.slice ka f.q.length kc) f.gt (.slice kb f.o.length kd)) := (CW.out.below hb)
        have IW_ : Hid (EndI w16 loW hiW (.agg #[.int .i64 f.nx, .int .i64 f.ak, .slice ka f.q.length kc, .int .i64 f.gt, .slice kb f.o.length kd]) f) := (IW.out.below hb)
        have CX_ : Hid (EndC w16 32 w4.heap.size e.nx e.ak (.slice xa e.q.length xc) e.gt (.slice xb e.o.length xd)) := (CX.out.below hb)
        have CG_ : Hid (EndC w16 32 pG f.nx f.ak (.slice ga f.q.length gc) f.gt (.slice gb f.o.length gd)) := (CG.out.below hb)
        have IG_ : Hid (EndI w16 loG hiG (.agg #[.int .i64 f.nx, .int .i64 f.ak, .slice ga f.q.length gc, .int .i64 f.gt, .slice gb f.o.length gd]) f1) := (IG.out.below hb)
        have CH_ : Hid (EndC w16 32 pH f.nx f.ak (.slice ua f.q.length uc) f.gt (.slice ub f.o.length ud)) := (CH.out.below hb)
        have IH_ : Hid (EndI w16 loH hiH (.agg #[.int .i64 f.nx, .int .i64 f.ak, .slice ua f.q.length uc, .int .i64 f.gt, .slice ub f.o.length ud]) f) := (IH.out.below hb)
        clear F P B CW IW CX CG IG CH IH
        have F := F_
        have P := P_
        have B := B_
        have CW := CW_
        have IW := IW_
        have CX := CX_
        have CG := CG_
        have IG := IG_
        have CH := CH_
        have IH := IH_
        clear F_ P_ B_ CW_ IW_ CX_ CG_ IG_ CH_ IH_
        clear hb
        have hk : decide (((1 + f.q.length + f.o.length : Nat) : Int) < 0) = false := by simp; omega
        go_wp2_with fail
        go_ret
        exact ⟨rfl, B.out⟩
end Go.Proofs.Ytohagaelenhebaa
