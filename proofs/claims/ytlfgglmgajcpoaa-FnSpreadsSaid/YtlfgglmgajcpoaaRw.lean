/- The walks over drawn roads. -/
import Derived.Test.YtlfgglmgajcpoaaPp
import Derived.Test.YtlfgglmgajcpoaaTr
import Derived.Test.YtlfgglmgajcpoaaDO
namespace Go.Proofs.Ytlfgglmgajcpoaa
open Go.RowKit Pl
set_option linter.unusedVariables false

def cellsR (ps : List Rd) : List Value := ps.flatMap fun p => [.int .i64 p.a, .int .i64 p.b, .int .i64 p.c]
def SlR (w : World) (B : Nat) (v : Value) (ps : List Rd) : Prop := Sl w 31 3 B v ps.length (cellsR ps)
theorem cellsR_length (ps : List Rd) : (cellsR ps).length = ps.length * 3 := by
  induction ps with
  | nil => rfl
  | cons p ps ih => unfold cellsR at *; rw [List.flatMap_cons, List.length_append, ih, List.length_cons]; simp; omega
theorem cellsR_append (ps qs : List Rd) : cellsR (ps ++ qs) = cellsR ps ++ cellsR qs := by simp [cellsR]
theorem cellsR_one {ps : List Rd} : ∀ u ∈ cellsR ps, u.oneCell' = true := by
  intro u hu
  unfold cellsR at hu
  obtain ⟨p, _, hp⟩ := List.mem_flatMap.1 hu
  simp at hp
  rcases hp with rfl | rfl | rfl <;> rfl
theorem cellsR_at : ∀ (ps : List Rd) (i : Nat) (h : i < ps.length), (cellsR ps)[i * 3]? = some (.int .i64 ps[i].a) ∧ (cellsR ps)[i * 3 + 1]? = some (.int .i64 ps[i].b) ∧ (cellsR ps)[i * 3 + 2]? = some (.int .i64 ps[i].c) := by
  intro ps
  induction ps with
  | nil => intro i h; simp at h
  | cons p ps ih =>
    intro i h
    have e : cellsR (p :: ps) = [.int .i64 p.a, .int .i64 p.b, .int .i64 p.c] ++ cellsR ps := by simp [cellsR]
    rw [e]
    cases i with
    | zero => simp
    | succ i =>
      have := ih i (by simpa using h)
      refine ⟨?_, ?_, ?_⟩
      · rw [List.getElem?_append_right (by simp; omega)]
        simpa [show (i + 1) * 3 - 3 = i * 3 by omega] using this.1
      · rw [List.getElem?_append_right (by simp; omega)]
        simpa [show (i + 1) * 3 + 1 - 3 = i * 3 + 1 by omega] using this.2.1
      · rw [List.getElem?_append_right (by simp; omega)]
        simpa [show (i + 1) * 3 + 2 - 3 = i * 3 + 2 by omega] using this.2.2
theorem SlR.roads {w : World} {B : Nat} {v : Value} {ps : List Rd} (h : SlR w B v ps) : ∃ ao cap, v = .slice ao ps.length cap ∧ RoadsAt w ao ps := by
  by_cases h0 : 0 < ps.length
  · obtain ⟨g, off, cap, rfl, h1, h2, h3, h4⟩ := Sl.read h h0
    refine ⟨_, cap, rfl, fun i hi => ?_⟩
    obtain ⟨c0, c1, c2⟩ := cellsR_at ps i hi
    exact ⟨g, off, rfl, h2, h3 _ _ c0, by rw [Nat.add_assoc]; exact h3 _ _ c1, by rw [Nat.add_assoc]; exact h3 _ _ c2⟩
  · obtain ⟨ao, cap, rfl⟩ := Sl.form h
    exact ⟨ao, cap, rfl, fun i hi => by omega⟩
theorem Drw.grown {w0 w w' : World} {B g n cap : Nat} {ao : Option Addr} {row : Option Nat} (h : Drw w0 w B g ao n cap) (hB : B ≤ g) (hg : w.grownBy w' row) (hr : ∀ k, row = some k → g < k ∧ w0.heap.size ≤ k) : Drw w0 w' B g ao n cap := by
  have hlt := h.lt
  have hs := h.2.2.size
  refine ⟨?_, ?_, ⟨hg.os.trans h.2.2.os, hg.tape.trans h.2.2.tape, hg.output.trans h.2.2.output, Nat.le_trans hs hg.size, fun k hk hne => (hg.block k (by omega) (fun he => by have := (hr k he.symm).2; omega)).trans (h.2.2.block k hk hne)⟩⟩
  · obtain ⟨i, j, h1, h2⟩ := h.1
    exact ⟨i, j, h1, (hg.block g hlt (fun he => by have := (hr g he.symm).1; omega)).trans h2⟩
  · refine h.2.1.stays (B' := B) ⟨hg.os, hg.tape, hg.output, hg.size, fun k hk => hg.block k (by omega) (fun he => by have := (hr k he.symm).1; omega)⟩ (Nat.le_refl _)

theorem SlR.keepBut {w w' : World} {g B : Nat} {v : Value} {ss : List Rd} (h : SlR w B v ss) (hk : KeepBut g w w') (hg : g < B) : SlR w' B v ss := Sl.keep h fun k hk' hlt => hk.block k hlt (by have := (Sl.lt h k hk').1; omega)

/-- roads that are drawn so far: right, and ahead of (a, b). -/
structure Dn (N a b : Nat) (ts : List Rd) : Prop where
  one : ∀ k, k < ts.length → oneP N ts k
  ahead : ∀ r ∈ ts, r.a < a ∨ r.a = a ∧ r.b < b
  len : ts.length ≤ 12
theorem Dn.new (N : Nat) : Dn N 0 0 [] := ⟨fun k hk => by simp at hk, fun r hr => by simp at hr, by simp⟩
theorem Dn.later {N a b a' b' : Nat} {ts : List Rd} (h : Dn N a b ts) (hl : a < a' ∨ a = a' ∧ b ≤ b') : Dn N a' b' ts := ⟨h.one, fun r hr => by have := h.ahead r hr; omega, h.len⟩
theorem Dn.push {N a b : Nat} {c : Int} {ts : List Rd} (h : Dn N a b ts) (ha : a < b) (hb : b < N) (hc : 1 ≤ c ∧ c ≤ 100) (hl : ts.length < 12) : Dn N a (b + 1) (ts ++ [⟨a, b, c⟩]) := by
  refine ⟨fun k hk => ?_, fun r hr => ?_, by simp; omega⟩
  · by_cases e : k < ts.length
    · obtain ⟨_, h1, h2⟩ := h.one k e
      refine ⟨hk, by rw [List.getElem_append_left e]; exact h1, fun j hj hkj => ?_⟩
      rw [List.getElem_append_left e, List.getElem_append_left (by omega)]
      exact h2 j (by omega) hkj
    · have hkl : k = ts.length := by simp at hk; omega
      subst hkl
      refine ⟨hk, ?_, fun j hj hkj => ?_⟩
      · simp only [List.getElem_append_right (Nat.le_refl _), Nat.sub_self, List.getElem_cons_zero]
        unfold fitP
        dsimp only
        omega
      · simp only [List.getElem_append_right (Nat.le_refl _), Nat.sub_self, List.getElem_cons_zero]
        rw [List.getElem_append_left (by omega)]
        have := h.ahead (ts[j]'(by omega)) (List.getElem_mem _)
        unfold ahP
        dsimp only
        omega
  · rcases List.mem_append.1 hr with hr | hr
    · have := h.ahead r hr
      omega
    · simp at hr
      subst hr
      dsimp only
      omega
theorem Dn.roads {N a b : Nat} {ts : List Rd} (h : Dn N a b ts) (hN : 1 ≤ N ∧ N ≤ 6) : RoadsP N ts := ⟨by omega, by omega, h.len, h.one⟩

section
variable {P : Program} {W : World} {B H : Nat} {v : Value} {ops : Array Oper} {rest : List Oper} {o : Oper} {a : Act} {Q : Exit → Act → World → Prop}
theorem wpList_pushR {ps : List Rd} (hgd : o.guard = none) (s x : Operand) (t : TypeId) (ho : o.op = .call { callee := .builtin .append, args := #[s, x], argTypes := #[t, t] })
    (ht : P.underlying t = some (.slice 31)) (hinfo : (P.info? 31).map (fun i => (i.zero, i.size, i.bytes)) = some (some (.agg #[.int .i64 0, .int .i64 0, .int .i64 0]), 3, 24)) (hs : a.eval s = v) (h : SlR W B v ps) (p : Rd)
    (hH : W.heap.size = H) (hx : a.eval x = .slice (some ⟨H, 0, none⟩) 1 1) (hn : ps.length < 4000000) (hB : B ≤ W.heap.size)
    (hh : ∀ v' w', SlR w' B v' (ps ++ [p]) → W.grownBy w' v.ownBlock → W.heap.size + 1 ≤ w'.heap.size → wpList P ops Q rest (a.put o.dst v') w') :
    wpList P ops Q (o :: rest) a (W.alloc (.cells #[.int .i64 p.a, .int .i64 p.b, .int .i64 p.c] 31)) :=
  wpList_plain hgd fun _ hK => wp_pushE s x ho (.agg #[.int .i64 0, .int .i64 0, .int .i64 0]) 24 ht hinfo rfl hs h [.int .i64 p.a, .int .i64 p.b, .int .i64 p.c] rfl (fun u hu => by simp at hu; rcases hu with rfl | rfl | rfl <;> rfl) hH hx hn (by omega) hB fun v' w' h2 h3 h4 h5 => hK _ _ (hh v' w' (by
    unfold SlR
    rw [cellsR_append, List.length_append]
    simpa [cellsR] using h2) h3 h4)
end
theorem Try.infoRd' : (Try.prog.info? 31).map (fun i => (i.zero, i.size, i.bytes)) = some (some (.agg #[.int .i64 0, .int .i64 0, .int .i64 0]), 3, 24) := by kernel_rfl

set_option maxRecDepth 100000 in
set_option maxHeartbeats 4000000 in
theorem drawRoads_in (w : World) (B g n cap : Nat) (ao : Option Addr) (hn : n ≤ 1048576) (hB : B ≤ g) (hd : Hid (Drw w w B g ao n cap)) :
    Calls Try.prog 35 #[.pointer (some ⟨g, 0, none⟩)] w fun e w' => (∃ (N : Nat) (v : Value) (ts : List Rd), e = .returned (.tuple #[.int .i64 N, v]) ∧ 2 ≤ N ∧ N ≤ 6 ∧ RoadsP N ts ∧ SlR w' w.heap.size v ts) ∧ Hid (Drw w w' B g ao n cap) := by
  have hgl := hd.out.lt
  go_enter Try.func35, Try.ntmps35
  go_wp2_with fail
  refine (below_small w w B g n cap 5 ao hn hB (by omega) (by omega) hd).mono ?_
  rintro r w1 ⟨⟨x, hx, rfl⟩, hd1⟩
  obtain ⟨N, hN⟩ : ∃ N : Nat, N = 2 + x := ⟨_, rfl⟩
  have hw1 : IntKind.i64.wrap (2 + (x : Int)) = (N : Int) := by rw [IntKind.wrap_i64]; omega
  have hN6 : 2 ≤ N ∧ N ≤ 6 := by omega
  have hs1 : w.heap.size ≤ w1.heap.size := hd1.out.2.2.size
  have S1 : Hid (SlR (w1.alloc (.cells #[] 31)) w.heap.size (.slice (some ⟨w1.heap.size, 0, none⟩) 0 0) []) := Sl.made w1 31 3 _ hs1
  have D1 : Hid (Drw w (w1.alloc (.cells #[] 31)) B g ao n cap) := hd1.out.alloc hB _
  clear hd hd1 hN
  go_wp2_with fail
  clear hw1
  generalize w1.alloc (.cells #[] 31) = W1 at *
  go_loopw [5, 6] (fun v i wr => ∃ (a : Nat) (ts : List Rd), a ≤ N ∧ i = .int .i64 a ∧ Hid (Dn N a 0 ts) ∧ Hid (SlR wr w.heap.size v ts) ∧ Hid (Drw w wr B g ao n cap)) (fun _ i _ => N - (intOf i).toNat)
  case atStart => exact ⟨0, [], by omega, rfl, Dn.new N, S1, D1⟩
  case round =>
    obtain ⟨a, ts, ha, rfl, hdn, hsl, hdr⟩ := hrel
    clear S1 D1
    by_cases hlt : a < N
    · go_wp2_with fail
      generalize wr = WO at *
      go_loopw [5, 7] (fun v i wr => ∃ (b : Nat) (ts : List Rd), a < b ∧ b ≤ N ∧ i = .int .i64 b ∧ Hid (Dn N a b ts) ∧ Hid (SlR wr w.heap.size v ts) ∧ Hid (Drw w wr B g ao n cap)) (fun _ i _ => N - (intOf i).toNat)
      case atStart => exact ⟨a + 1, ts, by omega, by omega, by go_num, hdn.out.later (by omega), hsl, hdr⟩
      case round =>
        obtain ⟨b, ts2, hab, hbN, rfl, hdn2, hsl2, hdr2⟩ := hrel
        clear hdn hsl hdr
        by_cases hbl : b < N
        · obtain ⟨va, vc, rfl⟩ := Sl.form hsl2.out
          have hwb : w.heap.size ≤ wr.heap.size := hdr2.out.2.2.size
          have DD := Drw.start hdr2.out.1 hdr2.out.2.1
          go_wp2_with fail
          refine (once_any wr wr B g n cap 2 ao hn hB (by omega) (by omega) DD).mono ?_
          rintro r w2 ⟨⟨bb, rfl⟩, hd2⟩
          have S2 : Hid (SlR w2 w.heap.size (.slice va ts2.length vc) ts2) := hsl2.out.keepBut hd2.out.2.2 hgl
          have D2 : Hid (Drw w w2 B g ao n cap) := ⟨hd2.out.1, hd2.out.2.1, hdr2.out.2.2.trans hd2.out.2.2⟩
          clear DD hd2 hsl2 hdr2
          cases bb with
          | false =>
            go_wp2_with fail
            go_roundw
            case rel => exact ⟨b + 1, ts2, by omega, by omega, by go_num, hdn2.out.later (by omega), S2, D2⟩
            case measure => simp [intOf]; omega
          | true =>
            by_cases h12 : ts2.length < 12
            · have hd12 : ((ts2.length : Int) < 12) := by omega
              have DD := Drw.start D2.out.1 D2.out.2.1
              go_wp2_with fail
              refine (below_small w2 w2 B g n cap 5 ao hn hB (by omega) (by omega) DD).mono ?_
              rintro r w3 ⟨⟨y, hy, rfl⟩, hd3⟩
              have S3 : SlR w3 w.heap.size (.slice va ts2.length vc) ts2 := S2.out.keepBut hd3.out.2.2 hgl
              have D3 : Hid (Drw w w3 B g ao n cap) := ⟨hd3.out.1, hd3.out.2.1, D2.out.2.2.trans hd3.out.2.2⟩
              have hw3 : w.heap.size ≤ w3.heap.size := D3.out.2.2.size
              have hwc : IntKind.i64.wrap (1 + (y : Int)) = 1 + (y : Int) := by rw [IntKind.wrap_i64]; omega
              have HL3 : Hid (∀ k, (Value.slice va ts2.length vc).ownBlock = some k → w.heap.size ≤ k ∧ k < w3.heap.size) := fun k hk => Sl.lt S3 k hk
              have HS3 : Hid (SlR w3 w.heap.size (.slice va ts2.length vc) ts2) := S3
              clear DD hd3 S2 D2 S3
              go_wp2_with (at_builtin; refine wpList_pushR rfl _ _ 24 rfl Try.underlying24 Try.infoRd' rfl (show SlR w3 w.heap.size (.slice va ts2.length vc) ts2 from HS3.out) ⟨(a : Int), (b : Int), 1 + (y : Int)⟩ rfl rfl (by omega) hw3 ?_; intro v6 w6 hown6 hg6 hz6)
              have D6 : Hid (Drw w w6 B g ao n cap) := D3.out.grown hB hg6 (fun k hk => by have := HL3.out k hk; omega)
              have S6 : Hid (SlR w6 w.heap.size v6 (ts2 ++ [⟨(a : Int), (b : Int), 1 + (y : Int)⟩])) := hown6
              clear hown6 hg6
              go_wp2_with fail
              go_roundw
              case rel => exact ⟨b + 1, _, by omega, by omega, by go_num, hdn2.out.push hab hbl (by omega) h12, S6, D6⟩
              case measure => simp [intOf]; omega
            · have hd12 : ¬ ((ts2.length : Int) < 12) := by omega
              go_wp2_with fail
              go_roundw
              case rel => exact ⟨b + 1, ts2, by omega, by omega, by go_num, hdn2.out.later (by omega), S2, D2⟩
              case measure => simp [intOf]; omega
        · go_wp2_with fail
          go_roundw
          case rel => exact ⟨a + 1, ts2, by omega, by go_num, hdn2.out.later (by omega), hsl2, hdr2⟩
          case measure => simp [intOf]; omega
    · go_wp2_with fail
      go_ret2
      exact ⟨⟨N, _, ts, rfl, hN6.1, hN6.2, hdn.out.roads (by omega), hsl.out⟩, hdr⟩

set_option maxRecDepth 100000 in
set_option maxHeartbeats 2000000 in
theorem drawRoads_any (w : World) (n cap : Nat) (ao : Option Addr) (hn : n ≤ 1048576) (hk : Hid (CodeAt w w.heap.size ao n)) :
    Calls Try.prog 10 #[.slice ao n cap] w fun e w' => (∃ (N : Nat) (v : Value) (ts : List Rd), e = .returned (.tuple #[.int .i64 N, v]) ∧ 2 ≤ N ∧ N ≤ 6 ∧ RoadsP N ts ∧ SlR w' w.heap.size v ts) ∧ Below w.heap.size w w' := by
  go_enter Try.func10, Try.ntmps10
  go_wp2_with fail
  refine (new_any _ n cap ao hn hk).mono ?_
  rintro e w1 ⟨rfl, hc1, hb1, hs1⟩
  have hlt1 : w.heap.size + 1 ≤ w1.heap.size := by omega
  have hd1 := Drw.start hc1.out (hk.out.stays hb1 (Nat.le_refl _))
  clear hs1
  go_wp2_with fail
  refine (drawRoads_in w1 w.heap.size w.heap.size n cap ao hn (Nat.le_refl _) hd1).mono ?_
  rintro e w2 ⟨⟨N, v, ts, rfl, h1, h2, h3, h4⟩, hd2⟩
  go_wp2_with fail
  go_ret2
  exact ⟨⟨N, v, ts, rfl, h1, h2, h3, Sl.down h4 (by omega)⟩, hb1.trans (hd2.out.2.2.below (Nat.le_refl _) (by omega))⟩
end Go.Proofs.Ytlfgglmgajcpoaa
