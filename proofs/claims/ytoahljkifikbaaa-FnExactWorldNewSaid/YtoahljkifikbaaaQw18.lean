/- Joined texts: CGpd CWne CLwn15. -/
import Derived.Test.YtoahljkifikbaaaQw17
import Derived.Test.YtoahljkifikbaaaQw15
import Derived.Test.YtoahljkifikbaaaQw5
/- Lists of daemons that have nothing but an Id: marked, and looked at again. Written by gen_dn.py. -/
namespace Go.Proofs.Ytoahljkifikbaaa
open Go.RowKit Pl
set_option linter.unusedVariables false
set_option linter.unusedSimpArgs false

def fdBd : List Fd := [⟨0, 0, none, []⟩, ⟨1, 1, none, []⟩, ⟨2, 0, none, []⟩, ⟨3, 0, none, []⟩, ⟨8, 0, none, []⟩, ⟨9, 0, none, []⟩, ⟨10, 0, none, []⟩, ⟨11, 0, none, []⟩, ⟨12, 0, none, []⟩, ⟨13, 0, none, []⟩, ⟨14, 0, none, []⟩, ⟨15, 0, none, []⟩, ⟨16, 0, none, []⟩, ⟨18, 0, none, []⟩, ⟨19, 0, none, []⟩, ⟨20, 0, none, []⟩]
theorem fdBd_s : ∀ f ∈ fdBd, f.s = none := by
  intro f hf
  simp only [fdBd, List.mem_cons, List.not_mem_nil, or_false] at hf
  rcases hf with rfl | rfl | rfl | rfl | rfl | rfl | rfl | rfl | rfl | rfl | rfl | rfl | rfl | rfl | rfl | rfl <;> rfl
theorem fdBd_c : ∀ f ∈ fdBd, f.c < 24 := by
  intro f hf
  simp only [fdBd, List.mem_cons, List.not_mem_nil, or_false] at hf
  rcases hf with rfl | rfl | rfl | rfl | rfl | rfl | rfl | rfl | rfl | rfl | rfl | rfl | rfl | rfl | rfl | rfl <;> decide
theorem fdBd_ne {c : Nat} (h : (fdBd.map (·.c)).contains c = false) : ∀ f ∈ fdBd, f.c ≠ c := by
  intro f hf e
  have : (fdBd.map (·.c)).contains c = true := by
    rw [List.contains_iff_mem]
    exact e ▸ List.mem_map_of_mem hf
  rw [h] at this
  cases this
theorem fdBd_two : fdBd.Pairwise fun f f' => (f.s = none → f'.s = none → f.c ≠ f'.c) := by
  simp [fdBd]
theorem fdBd_no {f : Fd} (hf : f ∈ fdBd) (x : Nat) : ¬ f.ow x := fun ⟨s, h, _⟩ => by rw [fdBd_s f hf] at h; cases h
theorem fdBds_ok (w : World) (g len : Nat) : FdOk w g 24 len (fun _ => fdBd) := by
  refine ⟨fun j hj f hf hs => fdBd_c f hf, fun j hj f hf hx => fdBd_no hf _ hx, fun j hj => ?_, fun i j hij hj f hf f' hf' x hx hy => fdBd_no hf _ hx, fun j hj f hf s' hs => by rw [fdBd_s f hf] at hs; cases hs⟩
  refine List.Pairwise.imp_of_mem ?_ fdBd_two
  intro a b ha hb h
  exact ⟨h, fun x hx => absurd hx (fdBd_no ha x)⟩
theorem pcBd_len (g o : Nat) (u : Unit) : (pc g o fdBd).length = DnSeg.len u := by
  simp [pc, fdBd, Fd.sp, sps_len, DnSeg.len]
theorem segBd {w : World} {B : Nat} {s : Sv} {es : List Bd} (h : BdsO w B s es) : DnSegL w (tls (svB s) (svO s) 24 (fun _ => fdBd) es.length) s.a s.n (fun _ => ()) (tlN (svB s) (svO s) 24 (fun _ => fdBd)) := by
  have hF := fdBds_ok w (svB s) es.length
  have hn : s.n = es.length := by have := SlN.slen h; simpa using this
  rw [hn]
  refine ⟨fun j hj => ?_, fun j hj => ?_⟩
  · obtain ⟨ha, hlt, hc, hfz⟩ := rowCells h (by simpa using (by omega : 0 < es.length))
    refine ⟨svB s, svO s, ha, ?_⟩
    have hat : ∀ r, r < (pc (svB s) (svO s + j * 24) fdBd).length → (tls (svB s) (svO s) 24 (fun _ => fdBd) es.length)[tlN (svB s) (svO s) 24 (fun _ => fdBd) j + r]? = (pc (svB s) (svO s + j * 24) fdBd)[r]? := fun r hr => tls_at (F := fun _ => fdBd) hj hr
    have hrow : ∀ r u, (es[j].row)[r]? = some u → w.cell? ⟨svB s, svO s + j * 24 + r, none⟩ = some u := fun r u hu => hc j r u (by simpa using hj) (by simpa [hj] using hu)
    have hnot : ∀ c, c < 24 → (∀ f ∈ fdBd, f.c ≠ c) → ∀ x ∈ tls (svB s) (svO s) 24 (fun _ => fdBd) es.length, ¬ (x.1 = svB s ∧ x.2.1 = svO s + j * 24 + c) := fun c hc1 hc2 => tls_not hF hj hc1 (fun i hi f hf _ => hc2 f hf)
    obtain ⟨u, hu⟩ : ∃ u, u = es[j] := ⟨_, rfl⟩
    rw [← hu] at hrow
    generalize tlN (svB s) (svO s) 24 (fun _ => fdBd) j = n at *
    generalize tls (svB s) (svO s) 24 (fun _ => fdBd) es.length = TL at *
    generalize svO s + j * 24 = o at *
    generalize svB s = g at *
    have fat : ∀ (A : List Fd) (f : Fd) (C : List Fd) (r : Nat), fdBd = A ++ f :: C → r < (f.sp g o).length → TL[n + ((pc g o A).length + r)]? = (f.sp g o)[r]? := fun A f C r e hr => by
      rw [hat _ (by rw [e]; exact pc_len_lt A f C hr), e]
      exact pc_at A f C hr
    exact { gl := hlt, p0 := by have h := fat [] ⟨0, 0, none, []⟩ [⟨1, 1, none, []⟩, ⟨2, 0, none, []⟩, ⟨3, 0, none, []⟩, ⟨8, 0, none, []⟩, ⟨9, 0, none, []⟩, ⟨10, 0, none, []⟩, ⟨11, 0, none, []⟩, ⟨12, 0, none, []⟩, ⟨13, 0, none, []⟩, ⟨14, 0, none, []⟩, ⟨15, 0, none, []⟩, ⟨16, 0, none, []⟩, ⟨18, 0, none, []⟩, ⟨19, 0, none, []⟩, ⟨20, 0, none, []⟩] 0 rfl (by simp [Fd.sp]); simp [pc, Fd.sp, sps_len] at h; first | exact h | (rw [← h]; congr 1; omega), p1 := by have h := fat [⟨0, 0, none, []⟩] ⟨1, 1, none, []⟩ [⟨2, 0, none, []⟩, ⟨3, 0, none, []⟩, ⟨8, 0, none, []⟩, ⟨9, 0, none, []⟩, ⟨10, 0, none, []⟩, ⟨11, 0, none, []⟩, ⟨12, 0, none, []⟩, ⟨13, 0, none, []⟩, ⟨14, 0, none, []⟩, ⟨15, 0, none, []⟩, ⟨16, 0, none, []⟩, ⟨18, 0, none, []⟩, ⟨19, 0, none, []⟩, ⟨20, 0, none, []⟩] 0 rfl (by simp [Fd.sp]); simp [pc, Fd.sp, sps_len] at h; first | exact h | (rw [← h]; congr 1; omega), p2 := by have h := fat [⟨0, 0, none, []⟩, ⟨1, 1, none, []⟩] ⟨2, 0, none, []⟩ [⟨3, 0, none, []⟩, ⟨8, 0, none, []⟩, ⟨9, 0, none, []⟩, ⟨10, 0, none, []⟩, ⟨11, 0, none, []⟩, ⟨12, 0, none, []⟩, ⟨13, 0, none, []⟩, ⟨14, 0, none, []⟩, ⟨15, 0, none, []⟩, ⟨16, 0, none, []⟩, ⟨18, 0, none, []⟩, ⟨19, 0, none, []⟩, ⟨20, 0, none, []⟩] 0 rfl (by simp [Fd.sp]); simp [pc, Fd.sp, sps_len] at h; first | exact h | (rw [← h]; congr 1; omega), p3 := by have h := fat [⟨0, 0, none, []⟩, ⟨1, 1, none, []⟩, ⟨2, 0, none, []⟩] ⟨3, 0, none, []⟩ [⟨8, 0, none, []⟩, ⟨9, 0, none, []⟩, ⟨10, 0, none, []⟩, ⟨11, 0, none, []⟩, ⟨12, 0, none, []⟩, ⟨13, 0, none, []⟩, ⟨14, 0, none, []⟩, ⟨15, 0, none, []⟩, ⟨16, 0, none, []⟩, ⟨18, 0, none, []⟩, ⟨19, 0, none, []⟩, ⟨20, 0, none, []⟩] 0 rfl (by simp [Fd.sp]); simp [pc, Fd.sp, sps_len] at h; first | exact h | (rw [← h]; congr 1; omega), p8 := by have h := fat [⟨0, 0, none, []⟩, ⟨1, 1, none, []⟩, ⟨2, 0, none, []⟩, ⟨3, 0, none, []⟩] ⟨8, 0, none, []⟩ [⟨9, 0, none, []⟩, ⟨10, 0, none, []⟩, ⟨11, 0, none, []⟩, ⟨12, 0, none, []⟩, ⟨13, 0, none, []⟩, ⟨14, 0, none, []⟩, ⟨15, 0, none, []⟩, ⟨16, 0, none, []⟩, ⟨18, 0, none, []⟩, ⟨19, 0, none, []⟩, ⟨20, 0, none, []⟩] 0 rfl (by simp [Fd.sp]); simp [pc, Fd.sp, sps_len] at h; first | exact h | (rw [← h]; congr 1; omega), p9 := by have h := fat [⟨0, 0, none, []⟩, ⟨1, 1, none, []⟩, ⟨2, 0, none, []⟩, ⟨3, 0, none, []⟩, ⟨8, 0, none, []⟩] ⟨9, 0, none, []⟩ [⟨10, 0, none, []⟩, ⟨11, 0, none, []⟩, ⟨12, 0, none, []⟩, ⟨13, 0, none, []⟩, ⟨14, 0, none, []⟩, ⟨15, 0, none, []⟩, ⟨16, 0, none, []⟩, ⟨18, 0, none, []⟩, ⟨19, 0, none, []⟩, ⟨20, 0, none, []⟩] 0 rfl (by simp [Fd.sp]); simp [pc, Fd.sp, sps_len] at h; first | exact h | (rw [← h]; congr 1; omega), p10 := by have h := fat [⟨0, 0, none, []⟩, ⟨1, 1, none, []⟩, ⟨2, 0, none, []⟩, ⟨3, 0, none, []⟩, ⟨8, 0, none, []⟩, ⟨9, 0, none, []⟩] ⟨10, 0, none, []⟩ [⟨11, 0, none, []⟩, ⟨12, 0, none, []⟩, ⟨13, 0, none, []⟩, ⟨14, 0, none, []⟩, ⟨15, 0, none, []⟩, ⟨16, 0, none, []⟩, ⟨18, 0, none, []⟩, ⟨19, 0, none, []⟩, ⟨20, 0, none, []⟩] 0 rfl (by simp [Fd.sp]); simp [pc, Fd.sp, sps_len] at h; first | exact h | (rw [← h]; congr 1; omega), p11 := by have h := fat [⟨0, 0, none, []⟩, ⟨1, 1, none, []⟩, ⟨2, 0, none, []⟩, ⟨3, 0, none, []⟩, ⟨8, 0, none, []⟩, ⟨9, 0, none, []⟩, ⟨10, 0, none, []⟩] ⟨11, 0, none, []⟩ [⟨12, 0, none, []⟩, ⟨13, 0, none, []⟩, ⟨14, 0, none, []⟩, ⟨15, 0, none, []⟩, ⟨16, 0, none, []⟩, ⟨18, 0, none, []⟩, ⟨19, 0, none, []⟩, ⟨20, 0, none, []⟩] 0 rfl (by simp [Fd.sp]); simp [pc, Fd.sp, sps_len] at h; first | exact h | (rw [← h]; congr 1; omega), p12 := by have h := fat [⟨0, 0, none, []⟩, ⟨1, 1, none, []⟩, ⟨2, 0, none, []⟩, ⟨3, 0, none, []⟩, ⟨8, 0, none, []⟩, ⟨9, 0, none, []⟩, ⟨10, 0, none, []⟩, ⟨11, 0, none, []⟩] ⟨12, 0, none, []⟩ [⟨13, 0, none, []⟩, ⟨14, 0, none, []⟩, ⟨15, 0, none, []⟩, ⟨16, 0, none, []⟩, ⟨18, 0, none, []⟩, ⟨19, 0, none, []⟩, ⟨20, 0, none, []⟩] 0 rfl (by simp [Fd.sp]); simp [pc, Fd.sp, sps_len] at h; first | exact h | (rw [← h]; congr 1; omega), p13 := by have h := fat [⟨0, 0, none, []⟩, ⟨1, 1, none, []⟩, ⟨2, 0, none, []⟩, ⟨3, 0, none, []⟩, ⟨8, 0, none, []⟩, ⟨9, 0, none, []⟩, ⟨10, 0, none, []⟩, ⟨11, 0, none, []⟩, ⟨12, 0, none, []⟩] ⟨13, 0, none, []⟩ [⟨14, 0, none, []⟩, ⟨15, 0, none, []⟩, ⟨16, 0, none, []⟩, ⟨18, 0, none, []⟩, ⟨19, 0, none, []⟩, ⟨20, 0, none, []⟩] 0 rfl (by simp [Fd.sp]); simp [pc, Fd.sp, sps_len] at h; first | exact h | (rw [← h]; congr 1; omega), p14 := by have h := fat [⟨0, 0, none, []⟩, ⟨1, 1, none, []⟩, ⟨2, 0, none, []⟩, ⟨3, 0, none, []⟩, ⟨8, 0, none, []⟩, ⟨9, 0, none, []⟩, ⟨10, 0, none, []⟩, ⟨11, 0, none, []⟩, ⟨12, 0, none, []⟩, ⟨13, 0, none, []⟩] ⟨14, 0, none, []⟩ [⟨15, 0, none, []⟩, ⟨16, 0, none, []⟩, ⟨18, 0, none, []⟩, ⟨19, 0, none, []⟩, ⟨20, 0, none, []⟩] 0 rfl (by simp [Fd.sp]); simp [pc, Fd.sp, sps_len] at h; first | exact h | (rw [← h]; congr 1; omega), p15 := by have h := fat [⟨0, 0, none, []⟩, ⟨1, 1, none, []⟩, ⟨2, 0, none, []⟩, ⟨3, 0, none, []⟩, ⟨8, 0, none, []⟩, ⟨9, 0, none, []⟩, ⟨10, 0, none, []⟩, ⟨11, 0, none, []⟩, ⟨12, 0, none, []⟩, ⟨13, 0, none, []⟩, ⟨14, 0, none, []⟩] ⟨15, 0, none, []⟩ [⟨16, 0, none, []⟩, ⟨18, 0, none, []⟩, ⟨19, 0, none, []⟩, ⟨20, 0, none, []⟩] 0 rfl (by simp [Fd.sp]); simp [pc, Fd.sp, sps_len] at h; first | exact h | (rw [← h]; congr 1; omega), p16 := by have h := fat [⟨0, 0, none, []⟩, ⟨1, 1, none, []⟩, ⟨2, 0, none, []⟩, ⟨3, 0, none, []⟩, ⟨8, 0, none, []⟩, ⟨9, 0, none, []⟩, ⟨10, 0, none, []⟩, ⟨11, 0, none, []⟩, ⟨12, 0, none, []⟩, ⟨13, 0, none, []⟩, ⟨14, 0, none, []⟩, ⟨15, 0, none, []⟩] ⟨16, 0, none, []⟩ [⟨18, 0, none, []⟩, ⟨19, 0, none, []⟩, ⟨20, 0, none, []⟩] 0 rfl (by simp [Fd.sp]); simp [pc, Fd.sp, sps_len] at h; first | exact h | (rw [← h]; congr 1; omega), p18 := by have h := fat [⟨0, 0, none, []⟩, ⟨1, 1, none, []⟩, ⟨2, 0, none, []⟩, ⟨3, 0, none, []⟩, ⟨8, 0, none, []⟩, ⟨9, 0, none, []⟩, ⟨10, 0, none, []⟩, ⟨11, 0, none, []⟩, ⟨12, 0, none, []⟩, ⟨13, 0, none, []⟩, ⟨14, 0, none, []⟩, ⟨15, 0, none, []⟩, ⟨16, 0, none, []⟩] ⟨18, 0, none, []⟩ [⟨19, 0, none, []⟩, ⟨20, 0, none, []⟩] 0 rfl (by simp [Fd.sp]); simp [pc, Fd.sp, sps_len] at h; first | exact h | (rw [← h]; congr 1; omega), p19 := by have h := fat [⟨0, 0, none, []⟩, ⟨1, 1, none, []⟩, ⟨2, 0, none, []⟩, ⟨3, 0, none, []⟩, ⟨8, 0, none, []⟩, ⟨9, 0, none, []⟩, ⟨10, 0, none, []⟩, ⟨11, 0, none, []⟩, ⟨12, 0, none, []⟩, ⟨13, 0, none, []⟩, ⟨14, 0, none, []⟩, ⟨15, 0, none, []⟩, ⟨16, 0, none, []⟩, ⟨18, 0, none, []⟩] ⟨19, 0, none, []⟩ [⟨20, 0, none, []⟩] 0 rfl (by simp [Fd.sp]); simp [pc, Fd.sp, sps_len] at h; first | exact h | (rw [← h]; congr 1; omega), p20 := by have h := fat [⟨0, 0, none, []⟩, ⟨1, 1, none, []⟩, ⟨2, 0, none, []⟩, ⟨3, 0, none, []⟩, ⟨8, 0, none, []⟩, ⟨9, 0, none, []⟩, ⟨10, 0, none, []⟩, ⟨11, 0, none, []⟩, ⟨12, 0, none, []⟩, ⟨13, 0, none, []⟩, ⟨14, 0, none, []⟩, ⟨15, 0, none, []⟩, ⟨16, 0, none, []⟩, ⟨18, 0, none, []⟩, ⟨19, 0, none, []⟩] ⟨20, 0, none, []⟩ [] 0 rfl (by simp [Fd.sp]); simp [pc, Fd.sp, sps_len] at h; first | exact h | (rw [← h]; congr 1; omega), h4 := hrow 4 _ rfl, q4 := hnot 4 (by omega) (fun f hf => fdBd_ne (by decide) f hf), h5 := hrow 5 _ rfl, q5 := hnot 5 (by omega) (fun f hf => fdBd_ne (by decide) f hf), h6 := hrow 6 _ rfl, q6 := hnot 6 (by omega) (fun f hf => fdBd_ne (by decide) f hf), h7 := hrow 7 _ rfl, q7 := hnot 7 (by omega) (fun f hf => fdBd_ne (by decide) f hf), h17 := hrow 17 _ rfl, q17 := hnot 17 (by omega) (fun f hf => fdBd_ne (by decide) f hf), h21 := hrow 21 _ rfl, q21 := hnot 21 (by omega) (fun f hf => fdBd_ne (by decide) f hf), h22 := hrow 22 _ rfl, q22 := hnot 22 (by omega) (fun f hf => fdBd_ne (by decide) f hf), h23 := hrow 23 _ rfl, q23 := hnot 23 (by omega) (fun f hf => fdBd_ne (by decide) f hf) }
  · rw [tlN_succ, pcBd_len]
/-- a list that is marked from K up to M. -/
def HeldBd (w : World) (s : Sv) (K M : Nat) : Prop := ∃ (TL : List Spot) (N : Nat → Nat), Held w TL K ∧ DnSegL w TL s.a s.n (fun _ => ()) N ∧ N 0 = 0 ∧ M = K + N s.n ∧ s.n ≤ 1048576 ∧ (∀ x ∈ TL, s.v.ownBlock = some x.1)
theorem HeldBd.keep {w w' : World} {s : Sv} {K M : Nat} (h : HeldBd w s K M) (hz : w.heap.size ≤ w'.heap.size) (hk : ∀ b, s.v.ownBlock = some b → b < w.heap.size → w'.heap[b]? = w.heap[b]?) : HeldBd w' s K M := by
  obtain ⟨TL, N, h1, h2, h3, h4, h6, h5⟩ := h
  refine ⟨TL, N, fun i x hx => ?_, ⟨fun j hj => ?_, h2.nx⟩, h3, h4, h6, h5⟩
  · obtain ⟨k1, k2⟩ := h1 i x hx
    exact ⟨by omega, (cell_block (hk x.1 (h5 x (List.mem_of_getElem? hx)) k1)).trans k2⟩
  · obtain ⟨g, off, e, x⟩ := h2.one j hj
    have hb := hk g (by simp [Sv.v, Value.ownBlock, e]) x.gl
    exact ⟨g, off, e, { x with gl := by have := x.gl; omega, h4 := (cell_block hb).trans x.h4, h5 := (cell_block hb).trans x.h5, h6 := (cell_block hb).trans x.h6, h7 := (cell_block hb).trans x.h7, h17 := (cell_block hb).trans x.h17, h21 := (cell_block hb).trans x.h21, h22 := (cell_block hb).trans x.h22, h23 := (cell_block hb).trans x.h23 }⟩
theorem HeldBd.later {w w' : World} {s : Sv} {K M : Nat} (h : HeldBd w s K M) (b : Below w.heap.size w w') : HeldBd w' s K M := h.keep b.size fun k _ hk => b.block k hk
theorem tlN_Bd (g o : Nat) : ∀ k, tlN g o 24 (fun _ => fdBd) k = 16 * k
  | 0 => by simp [tlN, tls]
  | k + 1 => by
    rw [tlN_succ, tlN_Bd g o k]
    simp [pc, fdBd, Fd.sp]
    omega
theorem markBds_o (s : Sv) (es : List Bd) (B K : Nat) (w : World) (h : Hid (BdsO w B s es)) (hK : 0 < K) (hn : es.length ≤ 1048576) (hl : K + 16 * es.length ≤ 39999990) :
    Calls Try.prog 37 #[.slice s.a s.n s.c, .int .i64 K] w fun e w' => ∃ M : Nat, e = .returned (.int .i64 (M : Int)) ∧ M = K + 16 * es.length ∧ HeldBd w' s K M ∧ Gr (fun b => s.v.ownBlock = some b) w w' := by
  have hN : s.n = es.length := by have := SlN.slen h.out; simpa using this
  have tok := tls_ok (F := fun _ => fdBd) h.out (by simpa using fdBds_ok w (svB s) _)
  rw [List.length_map] at tok
  have sg := segBd h.out
  have hb := tlN_Bd (svB s) (svO s) es.length
  have hle : K + tlN (svB s) (svO s) 24 (fun _ => fdBd) s.n ≤ 39999990 := by rw [hN]; omega
  have hin : ∀ x ∈ tls (svB s) (svO s) 24 (fun _ => fdBd) es.length, s.v.ownBlock = some x.1 := fun x hx => by
    rcases tls_in hx with h1 | ⟨j, hj, f, hf, h1⟩
    · obtain ⟨j, hj, _⟩ := tls_mem hx
      obtain ⟨ha, _⟩ := rowCells h.out (by simpa using (by omega : 0 < es.length))
      rw [h1]
      simp [Sv.v, Value.ownBlock, ha]
    · exact absurd h1 (fdBd_no hf _)
  have hz0 : tlN (svB s) (svO s) 24 (fun _ => fdBd) 0 = 0 := by simp [tlN, tls]
  have mst : MkI w w (tls (svB s) (svO s) 24 (fun _ => fdBd) es.length) K (tlN (svB s) (svO s) 24 (fun _ => fdBd) 0) w := by rw [hz0]; exact MkI.start w _ K
  refine (markdaemons_sp w _ K s.a s.n s.c (fun _ => ()) (tlN (svB s) (svO s) 24 (fun _ => fdBd)) (K : Int) w tok mst sg (by rw [hz0]; rfl : (K : Int) = ((K + tlN (svB s) (svO s) 24 (fun _ => fdBd) 0 : Nat) : Int)) hle (by rw [hN]; omega) hK).mono ?_
  rintro e w' ⟨M, rfl, hM, mk⟩
  have hTL : tlN (svB s) (svO s) 24 (fun _ => fdBd) s.n = (tls (svB s) (svO s) 24 (fun _ => fdBd) es.length).length := by rw [hN]; rfl
  have b0 := mk.below 0 (fun _ _ => Nat.zero_le _) (Nat.zero_le _)
  refine ⟨M, rfl, by rw [hM, hN]; omega, ⟨_, _, (show Held w' _ K from (by rw [hTL] at mk; exact mk.held tok)), sg.marked mk, by simp [tlN, tls], hM, by rw [hN]; omega, hin⟩, ⟨b0.os, b0.tape, b0.output, mk.size, fun b hb hn => mk.blk b hb (fun x hx e => hn (e ▸ hin x hx))⟩⟩
theorem heldBds_o (s : Sv) (K M : Nat) (w : World) (h : Hid (HeldBd w s K M)) (hK : 0 < K) (hl : M ≤ 39999990) :
    Calls Try.prog 41 #[.slice s.a s.n s.c, .int .i64 K] w fun e w' => e = .returned (.int .i64 (M : Int)) ∧ Below w.heap.size w w' := by
  obtain ⟨TL, N, h1, h2, h3, h4, h6, h5⟩ := h.out
  refine (helddaemons_sp TL K s.a s.n s.c (fun _ => ()) N (K : Int) w h1 h2 (by rw [h3]; rfl : _ = _) (by omega) (by omega) hK).mono ?_
  rintro e w' ⟨M', rfl, hM, b⟩
  exact ⟨by rw [hM, h4], b⟩
end Go.Proofs.Ytoahljkifikbaaa


/- New worlds held against each other, marked, and looked at again. Written by gen_lwn15.py. -/
namespace Go.Proofs.Ytoahljkifikbaaa
open Go.RowKit Pl
set_option linter.unusedVariables false
set_option linter.unusedSimpArgs false

theorem sz_of_plr {a b : List Rn} (h : a.map Rn.pl = b.map Rn.pl) : Rns.tot a = Rns.tot b := by
  have e : ∀ (l : List Rn), Rns.tot l = ((l.map Rn.pl).map fun p => p.2.length).sum := fun l => by unfold Rns.tot; rw [List.map_map]; rfl
  rw [e, e, h]
def Wn.own (x : Wn) (y : Nat) : Prop := RnsOwn x.rs x.rl y ∨ x.ds.v.ownBlock = some y
theorem WnO.olt {w : World} {B : Nat} {x : Wn} (h : WnO w B x) {y : Nat} (hy : x.own y) : B ≤ y ∧ y < w.heap.size := by
  rcases hy with hy | hy
  · exact h.r.olt hy
  · exact SlN.lt h.d y hy
theorem WnO.keepo {w w' : World} {B : Nat} {x : Wn} (h : WnO w B x) (hk : ∀ b, x.own b → b < w.heap.size → w'.heap[b]? = w.heap[b]?) : WnO w' B x := ⟨h.r.keepo fun b hb => hk b (.inl hb), h.d.keep fun b hb => hk b (.inr hb)⟩
/-- not too much to be measured. -/
structure WnS (x : Wn) : Prop where
  r : x.rl.length + Rns.tot x.rl ≤ 1048576
  d : x.dl.length ≤ 5
theorem WnS.len {x : Wn} (h : WnS x) : x.rl.length ≤ 1048576 := by have := h.r; omega
theorem WnS.s {x : Wn} (h : WnS x) : ∀ e ∈ x.rl, e.S := (Rns.small (z := 0) (by have := h.r; omega) (Nat.le_refl _)).2
structure Wn.Same (x y : Wn) : Prop where
  r : x.rl.map Rn.pl = y.rl.map Rn.pl
  d : x.dl = y.dl
theorem Wn.Same.symm {x y : Wn} (h : x.Same y) : y.Same x := ⟨h.r.symm, h.d.symm⟩
theorem Wn.Same.trans {x y z : Wn} (h : x.Same y) (k : y.Same z) : x.Same z := ⟨h.r.trans k.r, h.d.trans k.d⟩
theorem Wn.Same.small {x y : Wn} (h : x.Same y) (k : WnS y) : WnS x := ⟨by rw [Rns.same_len h.r, sz_of_plr h.r]; exact k.r, by rw [h.d]; exact k.d⟩
/-- a world that is marked from K up to M. -/
def HeldW (w : World) (x : Wn) (K M : Nat) : Prop := ∃ K2 : Nat, HeldRn w x.rs x.rl K K2 ∧ HeldBd w x.ds K2 M ∧ 0 < K ∧ K ≤ K2 ∧ K2 ≤ M ∧ M ≤ 39999990
theorem HeldW.keep {w w' : World} {x : Wn} {K M : Nat} (h : HeldW w x K M) (hz : w.heap.size ≤ w'.heap.size) (hk : ∀ b, x.own b → b < w.heap.size → w'.heap[b]? = w.heap[b]?) : HeldW w' x K M := by
  obtain ⟨K2, h1, h2, h3⟩ := h
  exact ⟨K2, h1.keep hz fun b hb => hk b (.inl hb), h2.keep hz fun b hb => hk b (.inr hb), h3⟩
theorem HeldW.later {w w' : World} {x : Wn} {K M : Nat} (h : HeldW w x K M) (b : Below w.heap.size w w') : HeldW w' x K M := h.keep b.size fun k _ hk => b.block k hk
set_option maxRecDepth 100000 in
set_option maxHeartbeats 4000000 in
theorem eqWn_any (x y : Wn) (B1 B2 : Nat) (w : World) (h1 : Hid (WnO w B1 x)) (h2 : Hid (WnO w B2 y)) (he : Hid (x.Same y)) (hs : Hid (WnS x)) :
    Calls Try.prog 17 #[.agg #[.slice x.rs.a x.rs.n x.rs.c, .slice x.ds.a x.ds.n x.ds.c, .slice none 0 0, .slice none 0 0], .agg #[.slice y.rs.a y.rs.n y.rs.c, .slice y.ds.a y.ds.n y.ds.c, .slice none 0 0, .slice none 0 0]] w fun e w' => e = .returned (.bool true) ∧ Below w.heap.size w w' := by
  have hn1 : (w.alloc (.cells #[.slice x.rs.a x.rs.n x.rs.c, .slice x.ds.a x.ds.n x.ds.c, .slice none 0 0, .slice none 0 0] 40)).heap.size = w.heap.size + 1 := by simp
  have LA : Hid (Bx ((w.alloc (.cells #[.slice x.rs.a x.rs.n x.rs.c, .slice x.ds.a x.ds.n x.ds.c, .slice none 0 0, .slice none 0 0] 40)).alloc (.cells #[.slice y.rs.a y.rs.n y.rs.c, .slice y.ds.a y.ds.n y.ds.c, .slice none 0 0, .slice none 0 0] 40)) w.heap.size 40 [.slice x.rs.a x.rs.n x.rs.c, .slice x.ds.a x.ds.n x.ds.c, .slice none 0 0, .slice none 0 0]) := by
    have h := Bx.new w 40 [.slice x.rs.a x.rs.n x.rs.c, .slice x.ds.a x.ds.n x.ds.c, .slice none 0 0, .slice none 0 0]
    exact (h).later ((Below.refl _ _).alloc (Nat.le_refl _) _)
  have LB : Hid (Bx ((w.alloc (.cells #[.slice x.rs.a x.rs.n x.rs.c, .slice x.ds.a x.ds.n x.ds.c, .slice none 0 0, .slice none 0 0] 40)).alloc (.cells #[.slice y.rs.a y.rs.n y.rs.c, .slice y.ds.a y.ds.n y.ds.c, .slice none 0 0, .slice none 0 0] 40)) (w.heap.size + 1) 40 [.slice y.rs.a y.rs.n y.rs.c, .slice y.ds.a y.ds.n y.ds.c, .slice none 0 0, .slice none 0 0]) := by
    have h := Bx.new (w.alloc (.cells #[.slice x.rs.a x.rs.n x.rs.c, .slice x.ds.a x.ds.n x.ds.c, .slice none 0 0, .slice none 0 0] 40)) 40 [.slice y.rs.a y.rs.n y.rs.c, .slice y.ds.a y.ds.n y.ds.c, .slice none 0 0, .slice none 0 0]
    rw [hn1] at h
    exact h
  have BW : Hid (Below w.heap.size w ((w.alloc (.cells #[.slice x.rs.a x.rs.n x.rs.c, .slice x.ds.a x.ds.n x.ds.c, .slice none 0 0, .slice none 0 0] 40)).alloc (.cells #[.slice y.rs.a y.rs.n y.rs.c, .slice y.ds.a y.ds.n y.ds.c, .slice none 0 0, .slice none 0 0] 40))) := (((Below.refl _ _).alloc (by simp) _).alloc (by simp; try omega) _)
  clear hn1
  have PX : Hid (WnO ((w.alloc (.cells #[.slice x.rs.a x.rs.n x.rs.c, .slice x.ds.a x.ds.n x.ds.c, .slice none 0 0, .slice none 0 0] 40)).alloc (.cells #[.slice y.rs.a y.rs.n y.rs.c, .slice y.ds.a y.ds.n y.ds.c, .slice none 0 0, .slice none 0 0] 40)) B1 x) := h1.out.below BW.out
  have PY : Hid (WnO ((w.alloc (.cells #[.slice x.rs.a x.rs.n x.rs.c, .slice x.ds.a x.ds.n x.ds.c, .slice none 0 0, .slice none 0 0] 40)).alloc (.cells #[.slice y.rs.a y.rs.n y.rs.c, .slice y.ds.a y.ds.n y.ds.c, .slice none 0 0, .slice none 0 0] 40)) B2 y) := h2.out.below BW.out
  clear h1 h2
  go_enter Try.func17, Try.ntmps17
  have ca := LA.out.cell 0
  have cb := LB.out.cell 0
  simp only [List.getElem?_cons_succ, List.getElem?_cons_zero] at ca cb
  go_wp2_with fail
  clear ca cb
  generalize ((w.alloc (.cells #[.slice x.rs.a x.rs.n x.rs.c, .slice x.ds.a x.ds.n x.ds.c, .slice none 0 0, .slice none 0 0] 40)).alloc (.cells #[.slice y.rs.a y.rs.n y.rs.c, .slice y.ds.a y.ds.n y.ds.c, .slice none 0 0, .slice none 0 0] 40)) = W at *
  refine (eqRns_any x.rs y.rs x.rl y.rl B1 B2 _ (show Hid (RnsO W B1 x.rs x.rl) from PX.out.r) (show Hid (RnsO W B2 y.rs y.rl) from PY.out.r) (show Hid _ from he.out.r) hs.out.len (show Hid (∀ e ∈ x.rl, e.S) from hs.out.s)).mono ?_
  rintro e w1 ⟨rfl, b⟩
  have z_w1 : W.heap.size ≤ w1.heap.size := b.size
  have LA : Hid (Bx w1 w.heap.size 40 [.slice x.rs.a x.rs.n x.rs.c, .slice x.ds.a x.ds.n x.ds.c, .slice none 0 0, .slice none 0 0]) := LA.out.later b
  have LB : Hid (Bx w1 (w.heap.size + 1) 40 [.slice y.rs.a y.rs.n y.rs.c, .slice y.ds.a y.ds.n y.ds.c, .slice none 0 0, .slice none 0 0]) := LB.out.later b
  have BW : Hid (Below w.heap.size w w1) := bl_next BW.out b
  have PX : Hid (WnO w1 B1 x) := PX.out.below b
  have PY : Hid (WnO w1 B2 y) := PY.out.below b
  clear b
  have ca := LA.out.cell 1
  have cb := LB.out.cell 1
  simp only [List.getElem?_cons_succ, List.getElem?_cons_zero] at ca cb
  go_wp2_with fail
  clear ca cb
  refine (eqBds_any x.ds y.ds x.dl B1 B2 _ (show Hid (BdsO w1 B1 x.ds x.dl) from PX.out.d) (show Hid (BdsO w1 B2 y.ds x.dl) from (by rw [he.out.d]; exact PY.out.d)) (by have := hs.out.d; omega)).mono ?_
  rintro e w2 ⟨rfl, b⟩
  have z_w2 : w1.heap.size ≤ w2.heap.size := b.size
  have LA : Hid (Bx w2 w.heap.size 40 [.slice x.rs.a x.rs.n x.rs.c, .slice x.ds.a x.ds.n x.ds.c, .slice none 0 0, .slice none 0 0]) := LA.out.later b
  have LB : Hid (Bx w2 (w.heap.size + 1) 40 [.slice y.rs.a y.rs.n y.rs.c, .slice y.ds.a y.ds.n y.ds.c, .slice none 0 0, .slice none 0 0]) := LB.out.later b
  have BW : Hid (Below w.heap.size w w2) := bl_next BW.out b
  have PX : Hid (WnO w2 B1 x) := PX.out.below b
  have PY : Hid (WnO w2 B2 y) := PY.out.below b
  clear b
  have ca := LA.out.cell 2
  have cb := LB.out.cell 2
  simp only [List.getElem?_cons_succ, List.getElem?_cons_zero] at ca cb
  go_wp2_with fail
  clear ca cb
  refine (eqletters_nil _).mono ?_
  rintro e w3 ⟨rfl, b⟩
  have z_w3 : w2.heap.size ≤ w3.heap.size := b.size
  have LA : Hid (Bx w3 w.heap.size 40 [.slice x.rs.a x.rs.n x.rs.c, .slice x.ds.a x.ds.n x.ds.c, .slice none 0 0, .slice none 0 0]) := LA.out.later b
  have LB : Hid (Bx w3 (w.heap.size + 1) 40 [.slice y.rs.a y.rs.n y.rs.c, .slice y.ds.a y.ds.n y.ds.c, .slice none 0 0, .slice none 0 0]) := LB.out.later b
  have BW : Hid (Below w.heap.size w w3) := bl_next BW.out b
  have PX : Hid (WnO w3 B1 x) := PX.out.below b
  have PY : Hid (WnO w3 B2 y) := PY.out.below b
  clear b
  have ca := LA.out.cell 3
  have cb := LB.out.cell 3
  simp only [List.getElem?_cons_succ, List.getElem?_cons_zero] at ca cb
  go_wp2_with fail
  clear ca cb
  refine (eqevents_nil _).mono ?_
  rintro e w4 ⟨rfl, b⟩
  have z_w4 : w3.heap.size ≤ w4.heap.size := b.size
  have LA : Hid (Bx w4 w.heap.size 40 [.slice x.rs.a x.rs.n x.rs.c, .slice x.ds.a x.ds.n x.ds.c, .slice none 0 0, .slice none 0 0]) := LA.out.later b
  have LB : Hid (Bx w4 (w.heap.size + 1) 40 [.slice y.rs.a y.rs.n y.rs.c, .slice y.ds.a y.ds.n y.ds.c, .slice none 0 0, .slice none 0 0]) := LB.out.later b
  have BW : Hid (Below w.heap.size w w4) := bl_next BW.out b
  have PX : Hid (WnO w4 B1 x) := PX.out.below b
  have PY : Hid (WnO w4 B2 y) := PY.out.below b
  clear b
  go_wp2_with fail
  go_ret
  exact ⟨rfl, BW.out⟩
set_option maxRecDepth 100000 in
set_option maxHeartbeats 4000000 in
theorem markWn_o (x : Wn) (B K : Nat) (w : World) (h : Hid (WnO w B x)) (a : Hid (WnA x)) (hs : Hid (WnS x)) (hK : 0 < K) (hKl : K ≤ 10000000) :
    Calls Try.prog 19 #[.agg #[.slice x.rs.a x.rs.n x.rs.c, .slice x.ds.a x.ds.n x.ds.c, .slice none 0 0, .slice none 0 0], .int .i64 K] w fun e w' => ∃ M : Nat, e = .returned (.int .i64 (M : Int)) ∧ HeldW w' x K M ∧ Gr x.own w w' := by
  have LA : Hid (Bx (w.alloc (.cells #[.slice x.rs.a x.rs.n x.rs.c, .slice x.ds.a x.ds.n x.ds.c, .slice none 0 0, .slice none 0 0] 40)) w.heap.size 40 [.slice x.rs.a x.rs.n x.rs.c, .slice x.ds.a x.ds.n x.ds.c, .slice none 0 0, .slice none 0 0]) := by
    have h := Bx.new w 40 [.slice x.rs.a x.rs.n x.rs.c, .slice x.ds.a x.ds.n x.ds.c, .slice none 0 0, .slice none 0 0]
    exact h
  have BW : Hid (Below w.heap.size w (w.alloc (.cells #[.slice x.rs.a x.rs.n x.rs.c, .slice x.ds.a x.ds.n x.ds.c, .slice none 0 0, .slice none 0 0] 40))) := ((Below.refl _ _).alloc (by simp) _)
  have P : Hid (WnO (w.alloc (.cells #[.slice x.rs.a x.rs.n x.rs.c, .slice x.ds.a x.ds.n x.ds.c, .slice none 0 0, .slice none 0 0] 40)) B x) := h.out.below BW.out
  have NE : Hid (∀ y, x.own y → y < w.heap.size) := fun y hy => (h.out.olt hy).2
  have GG : Hid (Gr x.own w (w.alloc (.cells #[.slice x.rs.a x.rs.n x.rs.c, .slice x.ds.a x.ds.n x.ds.c, .slice none 0 0, .slice none 0 0] 40))) := gr_below BW.out
  have S1 := hs.out.r
  have S2 := hs.out.d
  clear h
  go_enter Try.func19, Try.ntmps19
  have ca := LA.out.cell 0
  simp only [List.getElem?_cons_succ, List.getElem?_cons_zero] at ca
  go_wp2_with fail
  clear ca
  generalize (w.alloc (.cells #[.slice x.rs.a x.rs.n x.rs.c, .slice x.ds.a x.ds.n x.ds.c, .slice none 0 0, .slice none 0 0] 40)) = W at *
  have PR : Hid (RnsO W B x.rs x.rl) := P.out.r
  have PD : Hid (BdsO W B x.ds x.dl) := P.out.d
  clear P BW
  refine (markRns_o x.rs x.rl B K _ PR (show Hid (RnsA x.rs x.rl) from a.out.r) hK (by omega) (by omega)).mono ?_
  rintro e w1 ⟨k2, rfl, m1, m2, o1, G⟩
  have LA : Hid (Bx w1 w.heap.size 40 [.slice x.rs.a x.rs.n x.rs.c, .slice x.ds.a x.ds.n x.ds.c, .slice none 0 0, .slice none 0 0]) := LA.out.gr G (fun h => by have := NE.out _ (Or.inl h); omega)
  have HR : Hid (HeldRn w1 x.rs x.rl K k2) := o1
  have PD : Hid (BdsO w1 B x.ds x.dl) := PD.out.keep fun b hb hl => G.block b hl (fun h => a.out.d b h hb)
  have GG : Hid (Gr x.own w w1) := GG.out.trans (G.up fun y hy => Or.inl hy)
  clear o1 G PR
  have ca := LA.out.cell 1
  simp only [List.getElem?_cons_succ, List.getElem?_cons_zero] at ca
  go_wp2_with fail
  clear ca
  refine (markBds_o x.ds x.dl B k2 _ PD (by omega) (by omega) (by omega)).mono ?_
  rintro e w2 ⟨M, rfl, m3, o2, G⟩
  have LA : Hid (Bx w2 w.heap.size 40 [.slice x.rs.a x.rs.n x.rs.c, .slice x.ds.a x.ds.n x.ds.c, .slice none 0 0, .slice none 0 0]) := LA.out.gr G (fun h => by have := NE.out _ (Or.inr h); omega)
  have HR : Hid (HeldRn w2 x.rs x.rl K k2) := HR.out.keep G.size fun b hb hl => G.block b hl (fun h => a.out.d b hb h)
  have HB : Hid (HeldBd w2 x.ds k2 M) := o2
  have GG : Hid (Gr x.own w w2) := GG.out.trans (G.up fun y hy => Or.inr hy)
  clear o2 G PD
  have hml : M ≤ 39999990 ∧ k2 ≤ M := by omega
  clear m3
  have ca := LA.out.cell 2
  simp only [List.getElem?_cons_succ, List.getElem?_cons_zero] at ca
  go_wp2_with fail
  clear ca
  refine (markletters_nil (M : Int) M _ rfl).mono ?_
  rintro e w3 ⟨M3, rfl, m3, b⟩
  subst m3
  have LA : Hid (Bx w3 w.heap.size 40 [.slice x.rs.a x.rs.n x.rs.c, .slice x.ds.a x.ds.n x.ds.c, .slice none 0 0, .slice none 0 0]) := LA.out.later b
  have HR : Hid (HeldRn w3 x.rs x.rl K k2) := HR.out.later b
  have HB : Hid (HeldBd w3 x.ds k2 M3) := HB.out.later b
  have GG : Hid (Gr x.own w w3) := GG.out.trans (gr_below b)
  clear b
  have ca := LA.out.cell 3
  simp only [List.getElem?_cons_succ, List.getElem?_cons_zero] at ca
  go_wp2_with fail
  clear ca
  refine (markevents_nil (M3 : Int) M3 _ rfl).mono ?_
  rintro e w4 ⟨M, rfl, m4, b⟩
  subst m4
  have HR : Hid (HeldRn w4 x.rs x.rl K k2) := HR.out.later b
  have HB : Hid (HeldBd w4 x.ds k2 M) := HB.out.later b
  have GG : Hid (Gr x.own w w4) := GG.out.trans (gr_below b)
  clear b LA
  go_wp2_with fail
  go_ret
  exact ⟨M, rfl, ⟨k2, HR.out, HB.out, hK, m1, hml.2, hml.1⟩, GG.out⟩
set_option maxRecDepth 100000 in
set_option maxHeartbeats 4000000 in
theorem heldWn_o (x : Wn) (K M : Nat) (w : World) (h : Hid (HeldW w x K M)) :
    Calls Try.prog 20 #[.agg #[.slice x.rs.a x.rs.n x.rs.c, .slice x.ds.a x.ds.n x.ds.c, .slice none 0 0, .slice none 0 0], .int .i64 K] w fun e w' => e = .returned (.int .i64 (M : Int)) ∧ Below w.heap.size w w' := by
  have LA : Hid (Bx (w.alloc (.cells #[.slice x.rs.a x.rs.n x.rs.c, .slice x.ds.a x.ds.n x.ds.c, .slice none 0 0, .slice none 0 0] 40)) w.heap.size 40 [.slice x.rs.a x.rs.n x.rs.c, .slice x.ds.a x.ds.n x.ds.c, .slice none 0 0, .slice none 0 0]) := by
    have h := Bx.new w 40 [.slice x.rs.a x.rs.n x.rs.c, .slice x.ds.a x.ds.n x.ds.c, .slice none 0 0, .slice none 0 0]
    exact h
  have BW : Hid (Below w.heap.size w (w.alloc (.cells #[.slice x.rs.a x.rs.n x.rs.c, .slice x.ds.a x.ds.n x.ds.c, .slice none 0 0, .slice none 0 0] 40))) := ((Below.refl _ _).alloc (by simp) _)
  obtain ⟨k2, h1, h2, hK, m1, m2, m3⟩ := h.out
  have HR : Hid (HeldRn (w.alloc (.cells #[.slice x.rs.a x.rs.n x.rs.c, .slice x.ds.a x.ds.n x.ds.c, .slice none 0 0, .slice none 0 0] 40)) x.rs x.rl K k2) := h1.later BW.out
  have HB : Hid (HeldBd (w.alloc (.cells #[.slice x.rs.a x.rs.n x.rs.c, .slice x.ds.a x.ds.n x.ds.c, .slice none 0 0, .slice none 0 0] 40)) x.ds k2 M) := h2.later BW.out
  clear h h1 h2
  have d2 : decide ((k2 : Int) < 0) = false := by simp
  have d3 : decide ((M : Int) < 0) = false := by simp
  go_enter Try.func20, Try.ntmps20
  have ca := LA.out.cell 0
  simp only [List.getElem?_cons_succ, List.getElem?_cons_zero] at ca
  go_wp2_with fail
  clear ca
  generalize (w.alloc (.cells #[.slice x.rs.a x.rs.n x.rs.c, .slice x.ds.a x.ds.n x.ds.c, .slice none 0 0, .slice none 0 0] 40)) = W at *
  refine (heldRns_o x.rs x.rl K k2 _ HR hK (by omega)).mono ?_
  rintro e w1 ⟨rfl, b⟩
  have z_w1 : W.heap.size ≤ w1.heap.size := b.size
  have LA : Hid (Bx w1 w.heap.size 40 [.slice x.rs.a x.rs.n x.rs.c, .slice x.ds.a x.ds.n x.ds.c, .slice none 0 0, .slice none 0 0]) := LA.out.later b
  have BW : Hid (Below w.heap.size w w1) := bl_next BW.out b
  have HR : Hid (HeldRn w1 x.rs x.rl K k2) := HR.out.later b
  have HB : Hid (HeldBd w1 x.ds k2 M) := HB.out.later b
  clear b
  have ca := LA.out.cell 1
  simp only [List.getElem?_cons_succ, List.getElem?_cons_zero] at ca
  go_wp2_with fail
  clear ca
  refine (heldBds_o x.ds k2 M _ HB (by omega) (by omega)).mono ?_
  rintro e w2 ⟨rfl, b⟩
  have z_w2 : w1.heap.size ≤ w2.heap.size := b.size
  have LA : Hid (Bx w2 w.heap.size 40 [.slice x.rs.a x.rs.n x.rs.c, .slice x.ds.a x.ds.n x.ds.c, .slice none 0 0, .slice none 0 0]) := LA.out.later b
  have BW : Hid (Below w.heap.size w w2) := bl_next BW.out b
  have HR : Hid (HeldRn w2 x.rs x.rl K k2) := HR.out.later b
  have HB : Hid (HeldBd w2 x.ds k2 M) := HB.out.later b
  clear b
  have ca := LA.out.cell 2
  simp only [List.getElem?_cons_succ, List.getElem?_cons_zero] at ca
  go_wp2_with fail
  clear ca
  refine (heldletters_nil (M : Int) M _ rfl).mono ?_
  rintro e w3 ⟨M3, rfl, m4, b⟩
  subst m4
  have LA : Hid (Bx w3 w.heap.size 40 [.slice x.rs.a x.rs.n x.rs.c, .slice x.ds.a x.ds.n x.ds.c, .slice none 0 0, .slice none 0 0]) := LA.out.later b
  have BW : Hid (Below w.heap.size w w3) := bl_next BW.out b
  have HR : Hid (HeldRn w3 x.rs x.rl K k2) := HR.out.later b
  have HB : Hid (HeldBd w3 x.ds k2 M3) := HB.out.later b
  clear b
  have ca := LA.out.cell 3
  simp only [List.getElem?_cons_succ, List.getElem?_cons_zero] at ca
  go_wp2_with fail
  clear ca
  refine (heldevents_nil (M3 : Int) M3 _ rfl).mono ?_
  rintro e w4 ⟨M, rfl, m5, b⟩
  subst m5
  have BW : Hid (Below w.heap.size w w4) := bl_next BW.out b
  clear b
  go_wp2_with fail
  go_ret
  exact ⟨rfl, BW.out⟩
end Go.Proofs.Ytoahljkifikbaaa


/- The law on WorldNew. Written by gen_lwn15.py. -/
namespace Go.Proofs.Ytoahljkifikbaaa
open Go.RowKit Pl
set_option linter.unusedVariables false
set_option linter.unusedSimpArgs false

set_option maxRecDepth 100000 in
set_option maxHeartbeats 32000000 in
theorem lawWorldNew_0 (s : Sv) (es : List Rn) (R : Wn) (OK : Bool) (w : World) (h0 : Hid (RnsR w s es)) (hl : es.length ≤ 9223372036854775807) (hL : Hid (∀ e ∈ es, e.L)) (hsR : Hid (es.length + Rns.tot es ≤ 1048576 → WnS R)) (SPC : Hid (es.length ≤ 1048576 → (∀ e ∈ es, e.S) → ∀ (u : Sv) (cs : List Rn) (W : World), Hid (RnsR W u cs) → Hid (cs.map Rn.pl = es.map Rn.pl) → Calls Try.prog 15 #[.slice u.a u.n u.c] W fun e w' => ∃ y : Wn, e = .returned (.tuple #[.agg #[.slice y.rs.a y.rs.n y.rs.c, .slice y.ds.a y.ds.n y.ds.c, .slice none 0 0, .slice none 0 0], .bool OK]) ∧ y.Same R ∧ WnO w' W.heap.size y ∧ Below W.heap.size W w')) (IMP : Hid (es.length ≤ 1048576 → (∀ e ∈ es, e.S) → ∀ (u : Sv) (cs : List Rn) (W : World), Hid (RnsR W u cs) → Hid (cs.map Rn.pl = es.map Rn.pl) → Calls Try.prog 16 #[.slice u.a u.n u.c] W fun e w' => ∃ y : Wn, e = .returned (.tuple #[.agg #[.slice y.rs.a y.rs.n y.rs.c, .slice y.ds.a y.ds.n y.ds.c, .slice none 0 0, .slice none 0 0], .bool OK]) ∧ y.Same R ∧ WnO w' W.heap.size y ∧ WnA y ∧ Below W.heap.size W w')) :
    Calls Try.prog 5 #[.slice s.a s.n s.c] w fun e w' => e = .returned (.bool true) ∧ Below w.heap.size w w' := by
  have dOK : (OK != OK) = false := by simp
  have HR : Hid (RnsR w s es) := h0
  have BW : Hid (Below w.heap.size w w) := Below.refl _ _
  go_enter Try.func5, Try.ntmps5
  go_wp2_with fail
  refine (szRings_any s es 1048576 _ HR (by omega) hl hL).mono ?_
  rintro e w1 ⟨rfl | ⟨z1, rfl, hz1⟩, b⟩
  · go_wp2_with fail
    go_ret
    exact ⟨rfl, bl_next BW.out b⟩
  have hd1 : decide ((z1 : Int) < 0) = false := by simp
  obtain ⟨hN, HS0⟩ := Rns.small hz1.out (by omega)
  have HS : Hid (∀ e ∈ es, e.S) := HS0
  have htot : es.length + Rns.tot es ≤ 1048576 := by have := hz1.out; omega
  have hsR : Hid (WnS R) := hsR.out htot
  have SPC := SPC.out hN HS0
  have IMP := IMP.out hN HS0
  have SPC : Hid _ := SPC
  have IMP : Hid _ := IMP
  clear HS0 hz1
  have BW : Hid (Below w.heap.size w w1) := bl_next BW.out b
  have HR : Hid (RnsR w1 s es) := HR.out.stays b
  clear b
  go_wp2_with fail
  clear hd1
  refine (toRings_any s es _ HR hN HS).mono ?_
  rintro e w2 ⟨u2, c2, rfl, e2, o2, p2, q2, b⟩
  have O2 : Hid (RnsO w2 w1.heap.size u2 c2) := o2
  have E2 : Hid (c2.map Rn.pl = es.map Rn.pl) := e2
  clear o2 e2 p2 q2
  have z_w2 : w1.heap.size ≤ w2.heap.size := b.size
  have BW : Hid (Below w.heap.size w w2) := bl_next BW.out b
  have HR : Hid (RnsR w2 s es) := HR.out.stays b
  clear b
  go_wp2_with fail
  refine (SPC.out u2 c2 _ (show Hid (RnsR _ u2 c2) from O2.out.r) E2).mono ?_
  rintro e w3 ⟨dk, rfl, ek, ok, b⟩
  have KO : Hid (WnO w3 w2.heap.size dk) := ok
  have EK : Hid (dk.Same R) := ek
  clear ok ek
  have z_w3 : w2.heap.size ≤ w3.heap.size := b.size
  have BW : Hid (Below w.heap.size w w3) := bl_next BW.out b
  have HR : Hid (RnsR w3 s es) := HR.out.stays b
  have O2 : Hid (RnsO w3 w1.heap.size u2 c2) := O2.out.below b
  clear b
  clear O2 E2
  have KL0 : Hid (∀ x, dk.own x → x < w3.heap.size) := fun x hx => (KO.out.olt hx).2
  have hz : Hid (Bx (w3.alloc (.cells #[.slice none 0 0, .slice none 0 0, .slice none 0 0, .slice none 0 0] 40)) w3.heap.size 40 [.slice none 0 0, .slice none 0 0, .slice none 0 0, .slice none 0 0]) := Bx.new w3 40 _
  go_wp2_with (first | (refine wpList_stB rfl 40 _ _ rfl w3.heap.size 0 rfl 40 _ hz.out [.slice dk.rs.a dk.rs.n dk.rs.c, .slice dk.ds.a dk.ds.n dk.ds.c, .slice none 0 0, .slice none 0 0] rfl (by simp) Try.sizeWo rfl [.slice dk.rs.a dk.rs.n dk.rs.c, .slice dk.ds.a dk.ds.n dk.ds.c, .slice none 0 0, .slice none 0 0] rfl ?_; intro WK OB TB; have b : Below w3.heap.size w3 WK := ((Below.refl _ _).alloc (Nat.le_refl _) _).trans (TB.below (Nat.le_refl _)); have KB : Hid (Bx WK w3.heap.size 40 [.slice dk.rs.a dk.rs.n dk.rs.c, .slice dk.ds.a dk.ds.n dk.ds.c, .slice none 0 0, .slice none 0 0]) := OB; have z_WK : w3.heap.size ≤ WK.heap.size := b.size; have BW : Hid (Below w.heap.size w WK) := bl_next BW.out b; have HR : Hid (RnsR WK s es) := HR.out.stays b; have KO : Hid (WnO WK w2.heap.size dk) := KO.out.below b; clear OB TB b; refine Stp.here ?_))
  refine Stp.go ?_
  clear hz
  have zl_KB : w3.heap.size < WK.heap.size := KB.out.lt
  generalize hg_KB : w3.heap.size = gKB at *
  have KL : Hid (∀ x, dk.own x → x < WK.heap.size) := fun x hx => by have := KL0.out x hx; have := KB.out.lt; omega
  clear KL0
  have zK : gKB < WK.heap.size := KB.out.lt
  have zw : w.heap.size ≤ WK.heap.size := BW.out.size
  go_wp2_with fail
  refine (toRings_any s es _ HR hN HS).mono ?_
  rintro e w4 ⟨ux, cx, rfl, ex, ox, px, qx, b⟩
  have XO : Hid (RnsO w4 WK.heap.size ux cx) := ox
  have EX : Hid (cx.map Rn.pl = es.map Rn.pl) := ex
  have AX : Hid (RnsA ux cx) := px.a (fun b hb => (qx b hb).2)
  have SX : Hid (∀ e ∈ cx, e.S) := Rns.same_S ex HS.out
  have NX : cx.length ≤ 1048576 := by rw [Rns.same_len ex]; exact hN
  have TX : cx.length + Rns.tot cx ≤ 1048576 := by rw [Rns.same_len ex, sz_of_plr ex]; exact htot
  clear ox ex px qx
  have z_w4 : WK.heap.size ≤ w4.heap.size := b.size
  have BW : Hid (Below w.heap.size w w4) := bl_next BW.out b
  have HR : Hid (RnsR w4 s es) := HR.out.stays b
  have KO : Hid (WnO w4 w2.heap.size dk) := KO.out.below b
  have KB : Hid (Bx w4 gKB 40 [.slice dk.rs.a dk.rs.n dk.rs.c, .slice dk.ds.a dk.ds.n dk.ds.c, .slice none 0 0, .slice none 0 0]) := KB.out.later b
  clear b
  have XL : Hid (∀ x, RnsOwn ux cx x → WK.heap.size ≤ x ∧ x < w4.heap.size) := fun x hx => XO.out.olt hx
  go_wp2_with fail
  refine (IMP.out ux cx _ (show Hid (RnsR _ ux cx) from XO.out.r) EX).mono ?_
  rintro e w5 ⟨dg, rfl, eg, og, ag, b⟩
  have GO : Hid (WnO w5 w4.heap.size dg) := og
  have EG : Hid (dg.Same R) := eg
  have AG : Hid (WnA dg) := ag
  clear og eg ag
  have z_w5 : w4.heap.size ≤ w5.heap.size := b.size
  have BW : Hid (Below w.heap.size w w5) := bl_next BW.out b
  have HR : Hid (RnsR w5 s es) := HR.out.stays b
  have KO : Hid (WnO w5 w2.heap.size dk) := KO.out.below b
  have KB : Hid (Bx w5 gKB 40 [.slice dk.rs.a dk.rs.n dk.rs.c, .slice dk.ds.a dk.ds.n dk.ds.c, .slice none 0 0, .slice none 0 0]) := KB.out.later b
  have XO : Hid (RnsO w5 WK.heap.size ux cx) := XO.out.below b
  clear b
  have GL : Hid (∀ x, dg.own x → w4.heap.size ≤ x ∧ x < w5.heap.size) := fun x hx => GO.out.olt hx
  have hz : Hid (Bx (w5.alloc (.cells #[.slice none 0 0, .slice none 0 0, .slice none 0 0, .slice none 0 0] 40)) w5.heap.size 40 [.slice none 0 0, .slice none 0 0, .slice none 0 0, .slice none 0 0]) := Bx.new w5 40 _
  go_wp2_with (first | (refine wpList_stB rfl 40 _ _ rfl w5.heap.size 0 rfl 40 _ hz.out [.slice dg.rs.a dg.rs.n dg.rs.c, .slice dg.ds.a dg.ds.n dg.ds.c, .slice none 0 0, .slice none 0 0] rfl (by simp) Try.sizeWo rfl [.slice dg.rs.a dg.rs.n dg.rs.c, .slice dg.ds.a dg.ds.n dg.ds.c, .slice none 0 0, .slice none 0 0] rfl ?_; intro WG OB TB; have b : Below w5.heap.size w5 WG := ((Below.refl _ _).alloc (Nat.le_refl _) _).trans (TB.below (Nat.le_refl _)); have GB : Hid (Bx WG w5.heap.size 40 [.slice dg.rs.a dg.rs.n dg.rs.c, .slice dg.ds.a dg.ds.n dg.ds.c, .slice none 0 0, .slice none 0 0]) := OB; have z_WG : w5.heap.size ≤ WG.heap.size := b.size; have BW : Hid (Below w.heap.size w WG) := bl_next BW.out b; have HR : Hid (RnsR WG s es) := HR.out.stays b; have KO : Hid (WnO WG w2.heap.size dk) := KO.out.below b; have KB : Hid (Bx WG gKB 40 [.slice dk.rs.a dk.rs.n dk.rs.c, .slice dk.ds.a dk.ds.n dk.ds.c, .slice none 0 0, .slice none 0 0]) := KB.out.later b; have XO : Hid (RnsO WG WK.heap.size ux cx) := XO.out.below b; have GO : Hid (WnO WG w4.heap.size dg) := GO.out.below b; clear OB TB b; refine Stp.here ?_))
  refine Stp.go ?_
  clear hz
  have zl_GB : w5.heap.size < WG.heap.size := GB.out.lt
  generalize hg_GB : w5.heap.size = gGB at *
  have zG : gGB < WG.heap.size := GB.out.lt
  have SG : Hid (dg.Same dk) := EG.out.trans EK.out.symm
  have SMG : Hid (WnS dg) := EG.out.small hsR.out
  go_wp2_with (first | (refine wpList_ldG rfl 40 _ rfl gGB 0 rfl 40 _ GB.out [.slice dg.rs.a dg.rs.n dg.rs.c, .slice dg.ds.a dg.ds.n dg.ds.c, .slice none 0 0, .slice none 0 0] rfl _ Try.underlying40 rfl Try.sizeWo ?_) | (refine wpList_ldG rfl 40 _ rfl gKB 0 rfl 40 _ KB.out [.slice dk.rs.a dk.rs.n dk.rs.c, .slice dk.ds.a dk.ds.n dk.ds.c, .slice none 0 0, .slice none 0 0] rfl _ Try.underlying40 rfl Try.sizeWo ?_))
  refine (eqWn_any dg dk _ _ _ GO KO SG SMG).mono ?_
  rintro e w6 ⟨rfl, b⟩
  have z_w6 : WG.heap.size ≤ w6.heap.size := b.size
  have BW : Hid (Below w.heap.size w w6) := bl_next BW.out b
  have HR : Hid (RnsR w6 s es) := HR.out.stays b
  have KO : Hid (WnO w6 w2.heap.size dk) := KO.out.below b
  have KB : Hid (Bx w6 gKB 40 [.slice dk.rs.a dk.rs.n dk.rs.c, .slice dk.ds.a dk.ds.n dk.ds.c, .slice none 0 0, .slice none 0 0]) := KB.out.later b
  have XO : Hid (RnsO w6 WK.heap.size ux cx) := XO.out.below b
  have GO : Hid (WnO w6 w4.heap.size dg) := GO.out.below b
  have GB : Hid (Bx w6 gGB 40 [.slice dg.rs.a dg.rs.n dg.rs.c, .slice dg.ds.a dg.ds.n dg.ds.c, .slice none 0 0, .slice none 0 0]) := GB.out.later b
  clear b
  go_wp2_with fail
  refine (toRings_any s es _ HR hN HS).mono ?_
  rintro e w7 ⟨ut, ct, rfl, et, ot, pt, qt, b⟩
  have OT : Hid (RnsO w7 w6.heap.size ut ct) := ot
  have ET : Hid (cx.map Rn.pl = ct.map Rn.pl) := EX.out.trans et.symm
  clear ot et pt qt
  have z_w7 : w6.heap.size ≤ w7.heap.size := b.size
  have BW : Hid (Below w.heap.size w w7) := bl_next BW.out b
  have HR : Hid (RnsR w7 s es) := HR.out.stays b
  have KO : Hid (WnO w7 w2.heap.size dk) := KO.out.below b
  have KB : Hid (Bx w7 gKB 40 [.slice dk.rs.a dk.rs.n dk.rs.c, .slice dk.ds.a dk.ds.n dk.ds.c, .slice none 0 0, .slice none 0 0]) := KB.out.later b
  have XO : Hid (RnsO w7 WK.heap.size ux cx) := XO.out.below b
  have GO : Hid (WnO w7 w4.heap.size dg) := GO.out.below b
  have GB : Hid (Bx w7 gGB 40 [.slice dg.rs.a dg.rs.n dg.rs.c, .slice dg.ds.a dg.ds.n dg.ds.c, .slice none 0 0, .slice none 0 0]) := GB.out.later b
  clear b
  go_wp2_with fail
  refine (eqRns_any ux ut cx ct _ _ _ XO OT ET NX SX).mono ?_
  rintro e w8 ⟨rfl, b⟩
  have z_w8 : w7.heap.size ≤ w8.heap.size := b.size
  have BW : Hid (Below w.heap.size w w8) := bl_next BW.out b
  have HR : Hid (RnsR w8 s es) := HR.out.stays b
  have KO : Hid (WnO w8 w2.heap.size dk) := KO.out.below b
  have KB : Hid (Bx w8 gKB 40 [.slice dk.rs.a dk.rs.n dk.rs.c, .slice dk.ds.a dk.ds.n dk.ds.c, .slice none 0 0, .slice none 0 0]) := KB.out.later b
  have XO : Hid (RnsO w8 WK.heap.size ux cx) := XO.out.below b
  have GO : Hid (WnO w8 w4.heap.size dg) := GO.out.below b
  have GB : Hid (Bx w8 gGB 40 [.slice dg.rs.a dg.rs.n dg.rs.c, .slice dg.ds.a dg.ds.n dg.ds.c, .slice none 0 0, .slice none 0 0]) := GB.out.later b
  have OT : Hid (RnsO w8 w6.heap.size ut ct) := OT.out.below b
  clear b
  clear OT ET
  go_wp2_with fail
  refine (markRns_o ux cx _ 1 _ XO AX (by omega) NX (by omega)).mono ?_
  rintro e w9 ⟨Mx, rfl, m1, m2, _, G⟩
  have hMx : decide ((Mx : Int) < 0) = false := by simp
  have zy2 : w4.heap.size ≤ w8.heap.size ∧ WK.heap.size ≤ w8.heap.size := by have := GB.out.lt; omega
  have BW : Hid (Below w.heap.size w w9) := BW.out.trans (G.below (fun x hx => by have := (XL.out x hx).1; omega) BW.out.size)
  have HR : Hid (RnsR w9 s es) := h0.out.stays BW.out
  have KB : Hid (Bx w9 gKB 40 [.slice dk.rs.a dk.rs.n dk.rs.c, .slice dk.ds.a dk.ds.n dk.ds.c, .slice none 0 0, .slice none 0 0]) := KB.out.gr G (fun h => by have := (XL.out _ h).1; omega)
  have GB : Hid (Bx w9 gGB 40 [.slice dg.rs.a dg.rs.n dg.rs.c, .slice dg.ds.a dg.ds.n dg.ds.c, .slice none 0 0, .slice none 0 0]) := GB.out.gr G (fun h => by have := (XL.out _ h).2; omega)
  have KO : Hid (WnO w9 w2.heap.size dk) := KO.out.keepo fun b hb hl => G.block b hl (fun h => by have := KL.out b hb; have := (XL.out b h).1; omega)
  have GO : Hid (WnO w9 w4.heap.size dg) := GO.out.keepo fun b hb hl => G.block b hl (fun h => by have := (GL.out b hb).1; have := (XL.out b h).2; omega)
  clear G XO AX SX
  go_wp2_with (first | (refine wpList_ldG rfl 40 _ rfl gGB 0 rfl 40 _ GB.out [.slice dg.rs.a dg.rs.n dg.rs.c, .slice dg.ds.a dg.ds.n dg.ds.c, .slice none 0 0, .slice none 0 0] rfl _ Try.underlying40 rfl Try.sizeWo ?_) | (refine wpList_ldG rfl 40 _ rfl gKB 0 rfl 40 _ KB.out [.slice dk.rs.a dk.rs.n dk.rs.c, .slice dk.ds.a dk.ds.n dk.ds.c, .slice none 0 0, .slice none 0 0] rfl _ Try.underlying40 rfl Try.sizeWo ?_))
  clear hMx
  refine (eqWn_any dg dk _ _ _ GO KO SG SMG).mono ?_
  rintro e w10 ⟨rfl, b⟩
  have z_w10 : w9.heap.size ≤ w10.heap.size := b.size
  have BW : Hid (Below w.heap.size w w10) := bl_next BW.out b
  have HR : Hid (RnsR w10 s es) := HR.out.stays b
  have KO : Hid (WnO w10 w2.heap.size dk) := KO.out.below b
  have KB : Hid (Bx w10 gKB 40 [.slice dk.rs.a dk.rs.n dk.rs.c, .slice dk.ds.a dk.ds.n dk.ds.c, .slice none 0 0, .slice none 0 0]) := KB.out.later b
  have GO : Hid (WnO w10 w4.heap.size dg) := GO.out.below b
  have GB : Hid (Bx w10 gGB 40 [.slice dg.rs.a dg.rs.n dg.rs.c, .slice dg.ds.a dg.ds.n dg.ds.c, .slice none 0 0, .slice none 0 0]) := GB.out.later b
  clear b
  go_wp2_with (first | (refine wpList_ldG rfl 40 _ rfl gGB 0 rfl 40 _ GB.out [.slice dg.rs.a dg.rs.n dg.rs.c, .slice dg.ds.a dg.ds.n dg.ds.c, .slice none 0 0, .slice none 0 0] rfl _ Try.underlying40 rfl Try.sizeWo ?_))
  refine (markWn_o dg _ 1 _ GO AG SMG (by omega) (by omega)).mono ?_
  rintro e w11 ⟨M, rfl, HD, G⟩
  have HD : Hid (HeldW w11 dg 1 M) := HD
  have hM0 : decide ((M : Int) < 0) = false := by simp
  have hMM : decide ((M : Int) = (M : Int)) = true := by simp
  have zc : w4.heap.size ≤ w10.heap.size := by have := GB.out.lt; omega
  have BW : Hid (Below w.heap.size w w11) := BW.out.trans (G.below (fun x hx => by have := (GL.out x hx).1; omega) BW.out.size)
  have HR : Hid (RnsR w11 s es) := h0.out.stays BW.out
  have KB : Hid (Bx w11 gKB 40 [.slice dk.rs.a dk.rs.n dk.rs.c, .slice dk.ds.a dk.ds.n dk.ds.c, .slice none 0 0, .slice none 0 0]) := KB.out.gr G (fun h => by have := (GL.out _ h).1; omega)
  have GB : Hid (Bx w11 gGB 40 [.slice dg.rs.a dg.rs.n dg.rs.c, .slice dg.ds.a dg.ds.n dg.ds.c, .slice none 0 0, .slice none 0 0]) := GB.out.gr G (fun h => by have := (GL.out _ h).2; omega)
  have KO : Hid (WnO w11 w2.heap.size dk) := KO.out.keepo fun b hb hl => G.block b hl (fun h => by have := KL.out b hb; have := (GL.out b h).1; omega)
  clear G GO AG SG
  go_wp2_with (first | (refine wpList_ldG rfl 40 _ rfl gGB 0 rfl 40 _ GB.out [.slice dg.rs.a dg.rs.n dg.rs.c, .slice dg.ds.a dg.ds.n dg.ds.c, .slice none 0 0, .slice none 0 0] rfl _ Try.underlying40 rfl Try.sizeWo ?_))
  refine (heldWn_o dg 1 M _ HD).mono ?_
  rintro e w12 ⟨rfl, b⟩
  have z_w12 : w11.heap.size ≤ w12.heap.size := b.size
  have BW : Hid (Below w.heap.size w w12) := bl_next BW.out b
  have HR : Hid (RnsR w12 s es) := HR.out.stays b
  have KO : Hid (WnO w12 w2.heap.size dk) := KO.out.below b
  have KB : Hid (Bx w12 gKB 40 [.slice dk.rs.a dk.rs.n dk.rs.c, .slice dk.ds.a dk.ds.n dk.ds.c, .slice none 0 0, .slice none 0 0]) := KB.out.later b
  have GB : Hid (Bx w12 gGB 40 [.slice dg.rs.a dg.rs.n dg.rs.c, .slice dg.ds.a dg.ds.n dg.ds.c, .slice none 0 0, .slice none 0 0]) := GB.out.later b
  have HD : Hid (HeldW w12 dg 1 M) := HD.out.later b
  clear b
  go_wp2_with fail
  refine (toRings_any s es _ HR hN HS).mono ?_
  rintro e w13 ⟨u13, c13, rfl, e2, o2, p2, q2, b⟩
  have O2 : Hid (RnsO w13 w12.heap.size u13 c13) := o2
  have E2 : Hid (c13.map Rn.pl = es.map Rn.pl) := e2
  clear o2 e2 p2 q2
  have z_w13 : w12.heap.size ≤ w13.heap.size := b.size
  have BW : Hid (Below w.heap.size w w13) := bl_next BW.out b
  have HR : Hid (RnsR w13 s es) := HR.out.stays b
  have KO : Hid (WnO w13 w2.heap.size dk) := KO.out.below b
  have KB : Hid (Bx w13 gKB 40 [.slice dk.rs.a dk.rs.n dk.rs.c, .slice dk.ds.a dk.ds.n dk.ds.c, .slice none 0 0, .slice none 0 0]) := KB.out.later b
  have GB : Hid (Bx w13 gGB 40 [.slice dg.rs.a dg.rs.n dg.rs.c, .slice dg.ds.a dg.ds.n dg.ds.c, .slice none 0 0, .slice none 0 0]) := GB.out.later b
  have HD : Hid (HeldW w13 dg 1 M) := HD.out.later b
  clear b
  go_wp2_with fail
  refine (IMP.out u13 c13 _ (show Hid (RnsR _ u13 c13) from O2.out.r) E2).mono ?_
  rintro e w14 ⟨de, rfl, eg, og, ag, b⟩
  have EO : Hid (WnO w14 w13.heap.size de) := og
  have EE : Hid (de.Same dk) := eg.trans EK.out.symm
  have SME : Hid (WnS de) := eg.small hsR.out
  clear og eg ag
  have z_w14 : w13.heap.size ≤ w14.heap.size := b.size
  have BW : Hid (Below w.heap.size w w14) := bl_next BW.out b
  have HR : Hid (RnsR w14 s es) := HR.out.stays b
  have KO : Hid (WnO w14 w2.heap.size dk) := KO.out.below b
  have KB : Hid (Bx w14 gKB 40 [.slice dk.rs.a dk.rs.n dk.rs.c, .slice dk.ds.a dk.ds.n dk.ds.c, .slice none 0 0, .slice none 0 0]) := KB.out.later b
  have GB : Hid (Bx w14 gGB 40 [.slice dg.rs.a dg.rs.n dg.rs.c, .slice dg.ds.a dg.ds.n dg.ds.c, .slice none 0 0, .slice none 0 0]) := GB.out.later b
  have HD : Hid (HeldW w14 dg 1 M) := HD.out.later b
  have O2 : Hid (RnsO w14 w12.heap.size u13 c13) := O2.out.below b
  clear b
  clear O2 E2
  have hz : Hid (Bx (w14.alloc (.cells #[.slice none 0 0, .slice none 0 0, .slice none 0 0, .slice none 0 0] 40)) w14.heap.size 40 [.slice none 0 0, .slice none 0 0, .slice none 0 0, .slice none 0 0]) := Bx.new w14 40 _
  go_wp2_with (first | (refine wpList_stB rfl 40 _ _ rfl w14.heap.size 0 rfl 40 _ hz.out [.slice de.rs.a de.rs.n de.rs.c, .slice de.ds.a de.ds.n de.ds.c, .slice none 0 0, .slice none 0 0] rfl (by simp) Try.sizeWo rfl [.slice de.rs.a de.rs.n de.rs.c, .slice de.ds.a de.ds.n de.ds.c, .slice none 0 0, .slice none 0 0] rfl ?_; intro WE OB TB; have b : Below w14.heap.size w14 WE := ((Below.refl _ _).alloc (Nat.le_refl _) _).trans (TB.below (Nat.le_refl _)); have EB : Hid (Bx WE w14.heap.size 40 [.slice de.rs.a de.rs.n de.rs.c, .slice de.ds.a de.ds.n de.ds.c, .slice none 0 0, .slice none 0 0]) := OB; have z_WE : w14.heap.size ≤ WE.heap.size := b.size; have BW : Hid (Below w.heap.size w WE) := bl_next BW.out b; have HR : Hid (RnsR WE s es) := HR.out.stays b; have KO : Hid (WnO WE w2.heap.size dk) := KO.out.below b; have KB : Hid (Bx WE gKB 40 [.slice dk.rs.a dk.rs.n dk.rs.c, .slice dk.ds.a dk.ds.n dk.ds.c, .slice none 0 0, .slice none 0 0]) := KB.out.later b; have GB : Hid (Bx WE gGB 40 [.slice dg.rs.a dg.rs.n dg.rs.c, .slice dg.ds.a dg.ds.n dg.ds.c, .slice none 0 0, .slice none 0 0]) := GB.out.later b; have HD : Hid (HeldW WE dg 1 M) := HD.out.later b; have EO : Hid (WnO WE w13.heap.size de) := EO.out.below b; clear OB TB b; refine Stp.here ?_))
  refine Stp.go ?_
  clear hz
  have zl_EB : w14.heap.size < WE.heap.size := EB.out.lt
  generalize hg_EB : w14.heap.size = gEB at *
  go_wp2_with (first | (refine wpList_ldG rfl 40 _ rfl gEB 0 rfl 40 _ EB.out [.slice de.rs.a de.rs.n de.rs.c, .slice de.ds.a de.ds.n de.ds.c, .slice none 0 0, .slice none 0 0] rfl _ Try.underlying40 rfl Try.sizeWo ?_) | (refine wpList_ldG rfl 40 _ rfl gKB 0 rfl 40 _ KB.out [.slice dk.rs.a dk.rs.n dk.rs.c, .slice dk.ds.a dk.ds.n dk.ds.c, .slice none 0 0, .slice none 0 0] rfl _ Try.underlying40 rfl Try.sizeWo ?_))
  refine (eqWn_any de dk _ _ _ EO KO EE SME).mono ?_
  rintro e w15 ⟨rfl, b⟩
  have z_w15 : WE.heap.size ≤ w15.heap.size := b.size
  have BW : Hid (Below w.heap.size w w15) := bl_next BW.out b
  have HR : Hid (RnsR w15 s es) := HR.out.stays b
  have KO : Hid (WnO w15 w2.heap.size dk) := KO.out.below b
  have KB : Hid (Bx w15 gKB 40 [.slice dk.rs.a dk.rs.n dk.rs.c, .slice dk.ds.a dk.ds.n dk.ds.c, .slice none 0 0, .slice none 0 0]) := KB.out.later b
  have GB : Hid (Bx w15 gGB 40 [.slice dg.rs.a dg.rs.n dg.rs.c, .slice dg.ds.a dg.ds.n dg.ds.c, .slice none 0 0, .slice none 0 0]) := GB.out.later b
  have HD : Hid (HeldW w15 dg 1 M) := HD.out.later b
  have EO : Hid (WnO w15 w13.heap.size de) := EO.out.below b
  have EB : Hid (Bx w15 gEB 40 [.slice de.rs.a de.rs.n de.rs.c, .slice de.ds.a de.ds.n de.ds.c, .slice none 0 0, .slice none 0 0]) := EB.out.later b
  clear b
  go_wp2_with (first | (refine wpList_ldG rfl 40 _ rfl gGB 0 rfl 40 _ GB.out [.slice dg.rs.a dg.rs.n dg.rs.c, .slice dg.ds.a dg.ds.n dg.ds.c, .slice none 0 0, .slice none 0 0] rfl _ Try.underlying40 rfl Try.sizeWo ?_))
  refine (heldWn_o dg 1 M _ HD).mono ?_
  rintro e w16 ⟨rfl, b⟩
  have z_w16 : w15.heap.size ≤ w16.heap.size := b.size
  have BW : Hid (Below w.heap.size w w16) := bl_next BW.out b
  have HR : Hid (RnsR w16 s es) := HR.out.stays b
  have KO : Hid (WnO w16 w2.heap.size dk) := KO.out.below b
  have KB : Hid (Bx w16 gKB 40 [.slice dk.rs.a dk.rs.n dk.rs.c, .slice dk.ds.a dk.ds.n dk.ds.c, .slice none 0 0, .slice none 0 0]) := KB.out.later b
  have GB : Hid (Bx w16 gGB 40 [.slice dg.rs.a dg.rs.n dg.rs.c, .slice dg.ds.a dg.ds.n dg.ds.c, .slice none 0 0, .slice none 0 0]) := GB.out.later b
  have HD : Hid (HeldW w16 dg 1 M) := HD.out.later b
  have EO : Hid (WnO w16 w13.heap.size de) := EO.out.below b
  have EB : Hid (Bx w16 gEB 40 [.slice de.rs.a de.rs.n de.rs.c, .slice de.ds.a de.ds.n de.ds.c, .slice none 0 0, .slice none 0 0]) := EB.out.later b
  clear b
  go_wp2_with fail
  go_ret
  exact ⟨rfl, BW.out⟩
theorem lawWorldNew (s : Sv) (es : List Rn) (w : World) (h0 : Hid (RnsR w s es)) (hl : es.length ≤ 9223372036854775807) (hL : Hid (∀ e ∈ es, e.L)) :
    Calls Try.prog 5 #[.slice s.a s.n s.c] w fun e w' => e = .returned (.bool true) ∧ Below w.heap.size w w' := by
  have z0 : ∀ (W : World) (B : Nat), WnO W B ⟨zSv, [], zSv, []⟩ := fun W B => ⟨RnsO.nil _ _, BdsO.nil _ _⟩
  have za : WnA ⟨zSv, [], zSv, []⟩ := ⟨⟨fun y h => (by cases h), List.Pairwise.nil⟩, fun y h h2 => (by cases h2)⟩
  cases hr : ringsB (es.map Rn.pl) with
  | false =>
    refine lawWorldNew_0 s es ⟨zSv, [], zSv, []⟩ false w h0 hl hL (fun _ => ⟨by simp [Rns.tot], by simp⟩) ?_ ?_
    · intro hN hS u cs W hR hE
      exact (spWorldNew_no u cs W hR (by rw [Rns.same_len hE.out]; exact hN) (Rns.same_S hE.out hS) (by rw [hE.out]; exact hr)).mono fun e w' ⟨h1, h2⟩ => ⟨⟨zSv, [], zSv, []⟩, h1, ⟨rfl, rfl⟩, z0 _ _, h2⟩
    · intro hN hS u cs W hR hE
      exact (worldNew_no u cs W hR (by rw [Rns.same_len hE.out]; exact hN) (Rns.same_S hE.out hS) (by rw [hE.out]; exact hr)).mono fun e w' ⟨h1, h2⟩ => ⟨⟨zSv, [], zSv, []⟩, h1, ⟨rfl, rfl⟩, z0 _ _, za, h2⟩
  | true =>
    refine lawWorldNew_0 s es ⟨s, es, zSv, five⟩ true w h0 hl hL (fun h => ⟨h, by simp [five]⟩) ?_ ?_
    · intro hN hS u cs W hR hE
      exact (spWorldNew_yes u cs W hR (by rw [Rns.same_len hE.out]; exact hN) (Rns.same_S hE.out hS) (by rw [hE.out]; exact hr)).mono fun e w' ⟨x, h1, h2, h3, h4, h5⟩ => ⟨x, h1, ⟨h2.trans hE.out, h3⟩, h4, h5⟩
    · intro hN hS u cs W hR hE
      exact (worldNew_yes u cs W hR (by rw [Rns.same_len hE.out]; exact hN) (Rns.same_S hE.out hS) (by rw [hE.out]; exact hr)).mono fun e w' ⟨x, h1, h2, h3, h4, h5, h6⟩ => ⟨x, h1, ⟨h2.trans hE.out, h3⟩, h4, h5, h6⟩
end Go.Proofs.Ytoahljkifikbaaa


