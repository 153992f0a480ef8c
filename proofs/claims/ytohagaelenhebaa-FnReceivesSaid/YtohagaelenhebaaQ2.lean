/- The walk over the program's withParcels: a channel emptied. -/
import Derived.Test.YtohagaelenhebaaCh
import Derived.Test.YtohagaelenhebaaE3
import Derived.Test.YtohagaelenhebaaPs
import Derived.Test.YtohagaelenhebaaS1
import Derived.Test.YtohagaelenhebaaQ1
namespace Go.Proofs.Ytohagaelenhebaa
open Go.RowKit Pl Go.Conc
set_option linter.unusedVariables false

theorem Try.infoP : (Try.prog.info? 41).map (fun i => (i.zero, i.size, i.bytes)) = some (some (.agg #[.int .i64 0, .int .i64 0, .string ⟨#[]⟩]), 3, 32) := by kernel_rfl

theorem runR_drop {P : Program} {l : List Oper} {Q : Exit → Act → World → Prop} {a : Act} {w : World} (k : Nat) (h : wpList P l.toArray Q (l.drop k) a w) : RunR P l.toArray Q (List.range' k (l.drop k).length) a w := by
  refine runR_of_ops ?_
  rw [wpOps_pre (l.drop k) k (fun j hj => by simp)]
  exact h
def lenV : Value → Nat
  | .slice _ n _ => n
  | _ => 0
theorem slp_len {w : World} {B : Nat} {v : Value} {ps : List Pc} (h : SlP w B v ps) : lenV v = ps.length := by
  obtain ⟨ao, cap, rfl⟩ := Sl.form h
  rfl
theorem drop_one {qs : List Pc} {k : Nat} (h : k < qs.length) : qs.drop k = qs[k] :: qs.drop (k + 1) := List.drop_eq_getElem_cons h
theorem ext_tail (a : Value) (l : List Value) : (a :: l).toArray.extract 1 (a :: l).toArray.size = l.toArray := by
  apply Array.ext'
  simp
theorem zeroP : ∃ i, Try.prog.info? 41 = some i ∧ i.zero = some (.agg #[.int .i64 0, .int .i64 0, .string ⟨#[]⟩]) := by
  obtain ⟨i0, hi, hz0, _⟩ := info_parts Try.infoP
  exact ⟨i0, hi, hz0⟩

set_option maxRecDepth 100000 in
set_option maxHeartbeats 4000000 in
theorem withP_any {B c cap : Nat} {v : Value} {ps qs : List Pc} (w : World) (hS : SlP w B v ps) (hC : ChAt w c cap true qs) (hB : B ≤ w.heap.size) (hl : ps.length + qs.length ≤ 100000) :
    Calls Try.prog 57 #[v, .chan (some c)] w fun r w' => ∃ v', r = .returned v' ∧ SlP w' B v' (ps ++ qs) ∧ Gr (fun k => k = c ∨ v.ownBlock = some k) w w' ∧ (v'.ownBlock = v.ownBlock ∨ ∃ k, v'.ownBlock = some k ∧ w.heap.size ≤ k) := by
  go_enter Try.func57, Try.ntmps57
  go_wp2_with fail
  obtain ⟨ti, hti, htz⟩ := zeroP
  have HTI : Hid (Try.prog.info? 41 = some ti) := hti
  have HTZ : Hid (ti.zero = some (.agg #[.int .i64 0, .int .i64 0, .string ⟨#[]⟩])) := htz
  clear hti htz
  go_loopw [0] (fun u wr => ∃ (k : Nat), k ≤ qs.length ∧ Hid (SlP wr B u (ps ++ qs.take k)) ∧ Hid (ChAt wr c cap true (qs.drop k)) ∧ Hid (Gr (fun k => k = c ∨ v.ownBlock = some k) w wr) ∧ Hid (u.ownBlock = v.ownBlock ∨ ∃ k, u.ownBlock = some k ∧ w.heap.size ≤ k)) (fun u _ => ps.length + qs.length - lenV u)
  case atStart => exact ⟨0, Nat.zero_le _, (by show SlP _ _ _ _; simpa using hS), (by show ChAt _ _ _ _ _; simpa using hC), Gr.refl _ _, .inl rfl⟩
  case round =>
    obtain ⟨k, hk, hSk, hCk, hGk, hLk⟩ := hrel
    refine wp_seq_k fun K1 hK1 => ?_
    refine wp_region_run ?_
    show RunR _ _ _ (0 :: List.range' 1 1) _ _
    by_cases hlt : k < qs.length
    · obtain ⟨s, r, hch⟩ := hCk.out
      rw [drop_one hlt] at hch
      have hlc := (Array.getElem?_eq_some_iff.1 hch).1
      have hbs : 0 < (((qs[k] :: qs.drop (k + 1)).map pcV).toArray).size := by rw [List.map_cons]; simp
      refine runR_recv_buf (o := _) (by rfl) rfl rfl Try.underlying78 HTI.out HTZ.out (by rfl) hch hbs ?_
      rw [List.map_cons, ext_tail]
      have HC1 : Hid (ChAt (wr.setChan c cap ((qs.drop (k + 1)).map pcV).toArray true s (r + 1) false) c cap true (qs.drop (k + 1))) := ⟨s, r + 1, heap_setChan _ _ _ _ _ _ _ _ hlc⟩
      have hgc : Gr (fun k => k = c ∨ v.ownBlock = some k) wr (wr.setChan c cap ((qs.drop (k + 1)).map pcV).toArray true s (r + 1) false) :=
        ⟨rfl, rfl, rfl, by simp [World.setChan], fun j hj hn => by simp only [World.setChan]; rw [Array.getElem?_setIfInBounds_ne (by intro he; exact hn (.inl he.symm))]⟩
      have HG1 : Hid (Gr (fun k => k = c ∨ v.ownBlock = some k) w (wr.setChan c cap ((qs.drop (k + 1)).map pcV).toArray true s (r + 1) false)) := hGk.out.trans hgc
      have hnc : u0.ownBlock ≠ some c := fun he => by
        obtain ⟨_, hh⟩ := hSk.out
        rcases hh with ⟨rfl, _⟩ | ⟨g, off, cap', cur, rfl, _, hg, _⟩
        · simp [Value.ownBlock] at he
        · simp [Value.ownBlock] at he
          subst he
          rw [hch] at hg
          simp at hg
      have HS1 : Hid (SlP (wr.setChan c cap ((qs.drop (k + 1)).map pcV).toArray true s (r + 1) false) B u0 (ps ++ qs.take k)) := Sl.keep hSk.out (fun j hj _ => by
        simp only [World.setChan]
        rw [Array.getElem?_setIfInBounds_ne (by intro he; subst he; exact hnc hj)])
      have hgz : wr.heap.size = (wr.setChan c cap ((qs.drop (k + 1)).map pcV).toArray true s (r + 1) false).heap.size := by simp [World.setChan]
      obtain ⟨⟨x0, x1, x2⟩, hx⟩ : ∃ x : Pc, x = qs[k] := ⟨_, rfl⟩
      have HX : Hid ((x0, x1, x2) = qs[k]) := hx
      have hgot : got true (((pcV qs[k]) :: (qs.drop (k + 1)).map pcV).toArray.getD 0 undef) true = .tuple #[.agg #[.int .i64 x0, .int .i64 x1, .string x2], .bool true] := by
        rw [← hx]
        simp [got, pcV]
      rw [hgot]
      clear hx hgot hch hgc hbs
      generalize (wr.setChan c cap ((qs.drop (k + 1)).map pcV).toArray true s (r + 1) false) = W1 at *
      refine runR_drop 1 ?_
      simp only [List.drop, Act.put, List.setIfInBounds_toArray]
      obtain ⟨ua, uc, rfl⟩ := Sl.form HS1.out
      generalize (ps ++ qs.take k).length = N at *
      go_wp2_with (at_builtin; refine Stop.mk ?_)
      refine Stop.go ?_
      have z1 : (W1.alloc (Obj.cells #[Value.int IntKind.i64 x0, Value.int IntKind.i64 x1, Value.string x2] 41)).heap.size = W1.heap.size + 1 := by simp
      refine wpList_pushP rfl _ _ 35 rfl Try.underlying35 Try.infoP (by rfl) (show SlP (W1.alloc (Obj.cells #[Value.int IntKind.i64 x0, Value.int IntKind.i64 x1, Value.string x2] 41)) B _ _ from Sl.alloc HS1.out _) (x0, x1, x2) z1 (by rfl) (by rw [List.length_append, List.length_take]; omega) (by have := hGk.out.size; omega) ?_
      intro v2 w2 S2 G2 Z2 L2
      have hW1 : w.heap.size ≤ W1.heap.size := HG1.out.size
      have HS2 : Hid (SlP w2 B v2 (ps ++ qs.take (k + 1))) := by
        rw [← List.take_append_getElem hlt, ← HX.out, ← List.append_assoc]
        exact S2
      have HG2 : Hid (Gr (fun k => k = c ∨ v.ownBlock = some k) w w2) := by
        have h1 := HG1.out
        refine ⟨G2.os.trans h1.os, G2.tape.trans h1.tape, G2.output.trans h1.output, Nat.le_trans h1.size (by have := G2.size; rw [z1] at this; omega), fun j hj hn => ?_⟩
        have e1 := G2.block j (by rw [z1]; omega) (fun he => by
          rcases hLk.out with hh | ⟨k', hh, hk'⟩
          · exact hn (.inr (by rw [← hh, ← he]))
          · rw [← he] at hh; simp at hh; omega)
        rw [e1, heap_alloc_old _ _ (by omega)]
        exact h1.block j hj hn
      have HL2 : Hid (v2.ownBlock = v.ownBlock ∨ ∃ k, v2.ownBlock = some k ∧ w.heap.size ≤ k) := by
        rcases L2 with h2 | h2
        · rw [show v2.ownBlock = _ from h2]; exact hLk.out
        · exact .inr ⟨_, h2, by omega⟩
      have HC2 : Hid (ChAt w2 c cap true (qs.drop (k + 1))) := by
        obtain ⟨s', r', hch'⟩ := HC1.out
        have hlc' := (Array.getElem?_eq_some_iff.1 hch').1
        refine ⟨s', r', (G2.block c (by rw [z1]; omega) (fun he => hnc he.symm)).trans ?_⟩
        rw [heap_alloc_old _ _ hlc']
        exact hch'
      have hlen := slp_len HS2.out
      have hlen0 := slp_len HS1.out
      rw [List.length_append, List.length_take] at hlen hlen0
      have hm : ps.length + qs.length - lenV v2 < ps.length + qs.length - lenV (.slice ua N uc) := by omega
      clear S2 G2 Z2 L2 HS1 HG1 HC1 hSk hCk hGk hLk hlen hlen0
      go_wp2_with fail
      go_roundw
      case rel => exact ⟨k + 1, by omega, HS2.out, HC2.out, HG2.out, HL2.out⟩
      case measure => simpa using hm
    · obtain rfl : k = qs.length := by omega
      obtain ⟨s, r, hch⟩ := hCk.out
      rw [List.drop_length] at hch
      have HS1 := hSk.out
      rw [List.take_length] at HS1
      refine runR_recv_shut (o := _) (by rfl) rfl rfl Try.underlying78 HTI.out HTZ.out (by rfl) hch ?_
      refine runR_drop 1 ?_
      simp only [List.drop, Act.put, List.setIfInBounds_toArray, got, if_true]
      clear hch hSk hCk
      go_wp2_with fail
      go_ret
      exact ⟨_, rfl, HS1, hGk.out, hLk.out⟩
end Go.Proofs.Ytohagaelenhebaa
