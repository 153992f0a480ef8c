/- Least distances in plain words: what the specification's rounds and the program's search come to. -/
namespace Go.Proofs.Ytlfgglmgajcpoaa.Pl

structure Rd where
  a : Int
  b : Int
  c : Int

/-- a road from u to v, whichever way it is written. -/
def Adj (rs : List Rd) (u v c : Int) : Prop := (⟨u, v, c⟩ : Rd) ∈ rs ∨ (⟨v, u, c⟩ : Rd) ∈ rs

theorem Adj.symm {rs : List Rd} {u v c : Int} (h : Adj rs u v c) : Adj rs v u c := h.elim Or.inr Or.inl

/-- every road is one between two of n sites, and costs something. -/
def Fits (n : Int) (rs : List Rd) : Prop := ∀ r ∈ rs, 0 ≤ r.a ∧ r.a < r.b ∧ r.b < n ∧ 1 ≤ r.c ∧ r.c ≤ 100

theorem Fits.adj {n : Int} {rs : List Rd} (h : Fits n rs) {u v c : Int} (ha : Adj rs u v c) : 0 ≤ u ∧ u < n ∧ 0 ≤ v ∧ v < n ∧ 1 ≤ c ∧ c ≤ 100 ∧ u ≠ v := by
  rcases ha with ha | ha
  · have := h _ ha; simp only at this; omega
  · have := h _ ha; simp only at this; omega

/-- d tells the least sums of costs from a site on. -/
structure Least (rs : List Rd) (n s : Int) (d : Int → Int) : Prop where
  zero : d s = 0
  ge : ∀ v, -1 ≤ d v
  road : ∀ u v c, Adj rs u v c → 0 ≤ d u → 0 ≤ d v ∧ d v ≤ d u + c
  pre : ∀ v, v ≠ s → 0 ≤ d v → ∃ u c, Adj rs u v c ∧ 0 ≤ d u ∧ d u + c = d v

/-- one way along a road, as the specification goes it. -/
def relax1 (u v c : Int) (o : Int → Int) : Int → Int := if 0 ≤ o u ∧ (o v < 0 ∨ o u + c < o v) then fun x => if x = v then o u + c else o x else o
def relax (r : Rd) (o : Int → Int) : Int → Int := relax1 r.b r.a r.c (relax1 r.a r.b r.c o)
def round (rs : List Rd) (o : Int → Int) : Int → Int := rs.foldl (fun o r => relax r o) o
def rounds (rs : List Rd) : Nat → (Int → Int) → (Int → Int)
  | 0, o => o
  | k + 1, o => round rs (rounds rs k o)

/-- nothing told that is too little. -/
def Over (d o : Int → Int) : Prop := ∀ v, -1 ≤ o v ∧ (0 ≤ o v → 0 ≤ d v ∧ d v ≤ o v)
/-- what stands already stands on. -/
def Stays (d o o' : Int → Int) : Prop := ∀ v, 0 ≤ d v → o v = d v → o' v = d v

theorem Stays.refl (d o : Int → Int) : Stays d o o := fun _ _ h => h
theorem Stays.trans {d a b c : Int → Int} (h : Stays d a b) (k : Stays d b c) : Stays d a c := fun v h0 h1 => k v h0 (h v h0 h1)

theorem relax1_over {rs : List Rd} {n s : Int} {d o : Int → Int} (hl : Least rs n s d) {u v c : Int} (ha : Adj rs u v c) (hc : 1 ≤ c) (h : Over d o) :
    Over d (relax1 u v c o) ∧ Stays d o (relax1 u v c o) ∧ (0 ≤ d u → o u = d u → d u + c = d v → relax1 u v c o v = d v) := by
  unfold relax1
  have hu := h u
  have hv := h v
  have hr := hl.road u v c ha
  refine ⟨?_, ?_, ?_⟩
  · split
    · intro x
      by_cases hx : x = v
      · subst hx; simp; omega
      · simp [hx]; exact h x
    · exact h
  · split
    · intro x h0 h1
      by_cases hx : x = v
      · subst hx; simp; omega
      · simp [hx]; exact h1
    · exact Stays.refl d o
  · intro h0 h1 h2
    split
    · simp; omega
    · omega

theorem relax_over {rs : List Rd} {n s : Int} {d o : Int → Int} (hl : Least rs n s d) (hf : Fits n rs) {r : Rd} (hr : r ∈ rs) (h : Over d o) :
    Over d (relax r o) ∧ Stays d o (relax r o) ∧ (0 ≤ d r.a → o r.a = d r.a → d r.a + r.c = d r.b → relax r o r.b = d r.b) ∧ (0 ≤ d r.b → o r.b = d r.b → d r.b + r.c = d r.a → relax r o r.a = d r.a) := by
  have hc := (hf r hr).2.2.2.1
  have a1 := relax1_over hl (u := r.a) (v := r.b) (c := r.c) (Or.inl hr) hc h
  have a2 := relax1_over hl (u := r.b) (v := r.a) (c := r.c) (Or.inr hr) hc a1.1
  refine ⟨a2.1, a1.2.1.trans a2.2.1, fun h0 h1 h2 => a2.2.1 _ (by omega) (a1.2.2 h0 h1 h2), fun h0 h1 h2 => a2.2.2 h0 (a1.2.1 _ h0 h1) h2⟩

theorem fold_over {rs : List Rd} {n s : Int} {d : Int → Int} (hl : Least rs n s d) (hf : Fits n rs) : ∀ (l : List Rd) (o : Int → Int), (∀ r ∈ l, r ∈ rs) → Over d o →
    Over d (l.foldl (fun o r => relax r o) o) ∧ Stays d o (l.foldl (fun o r => relax r o) o) ∧ ∀ u v c, Adj l u v c → 0 ≤ d u → o u = d u → d u + c = d v → l.foldl (fun o r => relax r o) o v = d v
  | [], o, _, h => ⟨h, Stays.refl _ _, fun u v c ha => by rcases ha with ha | ha <;> cases ha⟩
  | r :: l, o, hm, h => by
    have a1 := relax_over hl hf (hm r (by simp)) h
    have a2 := fold_over hl hf l (relax r o) (fun x hx => hm x (by simp [hx])) a1.1
    refine ⟨a2.1, a1.2.1.trans a2.2.1, fun u v c ha h0 h1 h2 => ?_⟩
    have hcv : Adj rs u v c := ha.elim (fun h => Or.inl (hm _ h)) (fun h => Or.inr (hm _ h))
    have hc1 := (hf.adj hcv).2.2.2.2.1
    have hru : relax r o u = d u := a1.2.1 u h0 h1
    show l.foldl (fun o r => relax r o) (relax r o) v = d v
    rcases ha with ha | ha
    · rcases List.mem_cons.1 ha with he | ha
      · subst he
        exact a2.2.1 _ (by omega) (a1.2.2.1 h0 h1 h2)
      · exact a2.2.2 u v c (Or.inl ha) h0 hru h2
    · rcases List.mem_cons.1 ha with he | ha
      · subst he
        exact a2.2.1 _ (by omega) (a1.2.2.2 h0 h1 h2)
      · exact a2.2.2 u v c (Or.inr ha) h0 hru h2

/-- how many sites are nearer. -/
def rank (d : Int → Int) (v : Int) : Nat → Nat
  | 0 => 0
  | k + 1 => rank d v k + (if 0 ≤ d k ∧ d k < d v then 1 else 0)

theorem rank_le (d : Int → Int) (v : Int) : ∀ k, rank d v k ≤ k
  | 0 => Nat.le_refl _
  | k + 1 => by have := rank_le d v k; unfold rank; split <;> omega

theorem rank_mono {d : Int → Int} {u v : Int} (h : d u ≤ d v) : ∀ k, rank d u k ≤ rank d v k
  | 0 => Nat.le_refl _
  | k + 1 => by
    have := rank_mono h k
    unfold rank
    split
    · rw [if_pos (by omega)]; omega
    · split <;> omega

theorem rank_lt {d : Int → Int} {u v : Int} (h : d u < d v) (h0 : 0 ≤ d u) (u0 : 0 ≤ u) : ∀ k : Nat, u < k → rank d u k < rank d v k
  | 0, h1 => by omega
  | k + 1, h1 => by
    unfold rank
    by_cases hk : u = k
    · have hm := rank_mono (Int.le_of_lt h) k
      subst hk
      rw [if_neg (by omega), if_pos (by omega)]
      omega
    · have := rank_lt h h0 u0 k (by omega)
      split
      · rw [if_pos (by omega)]; omega
      · split <;> omega

theorem rounds_at {rs : List Rd} {n : Nat} {s : Int} {d o : Int → Int} (hl : Least rs n s d) (hf : Fits n rs) (h : Over d o) (hs : o s = 0) :
    ∀ k, Over d (rounds rs k o) ∧ ∀ v, 0 ≤ d v → rank d v n ≤ k → rounds rs k o v = d v
  | 0 => by
    refine ⟨h, fun v h0 h1 => ?_⟩
    by_cases hv : v = s
    · subst hv; rw [hl.zero]; exact hs
    · obtain ⟨u, c, ha, hu, he⟩ := hl.pre v hv h0
      have := hf.adj ha
      have := rank_lt (d := d) (u := u) (v := v) (by omega) hu (by omega) n (by omega)
      omega
  | k + 1 => by
    have ih := rounds_at hl hf h hs k
    have f := fold_over hl hf rs (rounds rs k o) (fun _ h => h) ih.1
    refine ⟨f.1, fun v h0 h1 => ?_⟩
    by_cases hv : v = s
    · subst hv
      refine f.2.1 v h0 (ih.2 v h0 ?_)
      have hz := hl.zero
      have : ∀ m, rank d v m = 0 := by
        intro m
        induction m with
        | zero => rfl
        | succ m ih => unfold rank; rw [ih, if_neg (by omega)]
      rw [this]; omega
    · obtain ⟨u, c, ha, hu, he⟩ := hl.pre v hv h0
      have := hf.adj ha
      have := rank_lt (d := d) (u := u) (v := v) (by omega) hu (by omega) n (by omega)
      exact f.2.2 u v c ha hu (ih.2 u hu (by omega)) he

/-- the specification's rounds tell the least sums. -/
theorem rounds_least {rs : List Rd} {n : Nat} {s : Int} {d : Int → Int} (hl : Least rs n s d) (hf : Fits n rs) (v : Int) :
    rounds rs n (fun x => if x = s then 0 else -1) v = d v := by
  have ho : Over d (fun x => if x = s then 0 else -1) := by
    intro x
    by_cases hx : x = s
    · subst hx; simp; have := hl.zero; omega
    · simp [hx]
  have := rounds_at hl hf ho (by simp) n
  by_cases h0 : 0 ≤ d v
  · exact this.2 v h0 (rank_le _ _ _)
  · have a := this.1 v
    have b := hl.ge v
    omega

/-- where the program's search stands: what is settled, and the stops ahead. -/
structure Dj (rs : List Rd) (n s : Int) (f : Int → Int) (H : List (Int × Int)) : Prop where
  ge : ∀ v, -1 ≤ f v
  out : ∀ v, ¬ (0 ≤ v ∧ v < n) → f v = -1
  stop : ∀ t ∈ H, 0 ≤ t.1 ∧ t.1 < n ∧ 0 ≤ t.2 ∧ (t = (s, 0) ∨ ∃ u c, Adj rs u t.1 c ∧ 0 ≤ f u ∧ t.2 = f u + c)
  top : ∀ v, ∀ t ∈ H, f v ≤ t.2
  start : f s = 0 ∨ (f s = -1 ∧ (s, 0) ∈ H)
  road : ∀ u v c, Adj rs u v c → 0 ≤ f u → (0 ≤ f v ∧ f v ≤ f u + c) ∨ (v, f u + c) ∈ H
  pre : ∀ v, v ≠ s → 0 ≤ f v → ∃ u c, Adj rs u v c ∧ 0 ≤ f u ∧ f u + c = f v

theorem Dj.new (rs : List Rd) (n s : Int) (h0 : 0 ≤ s) (h1 : s < n) : Dj rs n s (fun _ => -1) [(s, 0)] := by
  refine ⟨fun _ => by omega, fun _ _ => rfl, fun t ht => ?_, fun v t ht => ?_, Or.inr ⟨rfl, by simp⟩, fun u v c _ h => by simp at h, fun v _ h => by simp at h⟩
  · simp at ht; subst ht; exact ⟨h0, h1, by simp, Or.inl rfl⟩
  · simp at ht; subst ht; simp

theorem Dj.done {rs : List Rd} {n s : Int} {f : Int → Int} (h : Dj rs n s f []) : Least rs n s f :=
  ⟨h.start.elim id (fun h => by simp at h), h.ge, fun u v c ha h0 => (h.road u v c ha h0).elim id (fun h => by simp at h), h.pre⟩

/-- the least stop t is taken off: what is left is H'. -/
structure Off (H : List (Int × Int)) (t : Int × Int) (H' : List (Int × Int)) : Prop where
  mem : t ∈ H
  sub : ∀ x ∈ H', x ∈ H
  all : ∀ x ∈ H, x = t ∨ x ∈ H'
  least : ∀ x ∈ H, t.2 ≤ x.2

theorem Dj.skip {rs : List Rd} {n s : Int} {f : Int → Int} {H H' : List (Int × Int)} {t : Int × Int} (h : Dj rs n s f H) (o : Off H t H') (ht : f t.1 ≠ -1) : Dj rs n s f H' := by
  have h0 : 0 ≤ f t.1 := by have := h.ge t.1; omega
  refine ⟨h.ge, h.out, fun x hx => h.stop x (o.sub x hx), fun v x hx => h.top v x (o.sub x hx), ?_, fun u v c ha hu => ?_, h.pre⟩
  · rcases h.start with h1 | ⟨h1, h2⟩
    · exact Or.inl h1
    · rcases o.all _ h2 with he | he
      · rw [← he] at h0; simp only at h0; omega
      · exact Or.inr ⟨h1, he⟩
  · rcases h.road u v c ha hu with h1 | h1
    · exact Or.inl h1
    · rcases o.all _ h1 with he | he
      · have h2 := h.top t.1 t o.mem
        rw [← he] at h0 h2
        exact Or.inl ⟨h0, h2⟩
      · exact Or.inr he

theorem Dj.take {rs : List Rd} {n s : Int} {f : Int → Int} {H H' H2 : List (Int × Int)} {t : Int × Int} (hf : Fits n rs) (h : Dj rs n s f H) (o : Off H t H') (ht : f t.1 = -1)
    (h2 : ∀ x, x ∈ H2 ↔ x ∈ H' ∨ ∃ c, Adj rs t.1 x.1 c ∧ x.2 = t.2 + c) : Dj rs n s (fun x => if x = t.1 then t.2 else f x) H2 := by
  have tt := h.stop t o.mem
  refine ⟨fun v => ?_, fun v hv => ?_, fun x hx => ?_, fun v x hx => ?_, ?_, fun u v c ha hu => ?_, fun v hv h0 => ?_⟩
  · by_cases hv : v = t.1
    · simp [hv]; omega
    · simp [hv]; exact h.ge v
  · have : v ≠ t.1 := fun he => hv (by rw [he]; omega)
    simp [this]; exact h.out v hv
  · rcases (h2 x).1 hx with hx | ⟨c, ha, he⟩
    · obtain ⟨a0, a1, a2, a3⟩ := h.stop x (o.sub x hx)
      refine ⟨a0, a1, a2, a3.imp id ?_⟩
      rintro ⟨u, c, b1, b2, b3⟩
      have : u ≠ t.1 := fun he => by rw [he] at b2; omega
      exact ⟨u, c, b1, by simp [this]; exact b2, by simp [this]; exact b3⟩
    · have := hf.adj ha
      exact ⟨by omega, by omega, by omega, Or.inr ⟨t.1, c, ha, by simp; omega, by simp; exact he⟩⟩
  · have key : ∀ y, (if y = t.1 then t.2 else f y) ≤ t.2 := by
      intro y
      by_cases hy : y = t.1
      · simp [hy]
      · simp [hy]; exact h.top y t o.mem
    refine Int.le_trans (key v) ?_
    rcases (h2 x).1 hx with hx | ⟨c, ha, he⟩
    · exact o.least x (o.sub x hx)
    · have := hf.adj ha; omega
  · by_cases hs : s = t.1
    · left
      rcases h.start with h1 | ⟨h1, h3⟩
      · rw [hs] at h1; omega
      · have := o.least _ h3
        simp only at this
        simp [hs]; omega
    · rcases h.start with h1 | ⟨h1, h3⟩
      · left; simp [hs]; exact h1
      · right
        refine ⟨by simp [hs]; exact h1, (h2 _).2 (Or.inl ?_)⟩
        rcases o.all _ h3 with he | he
        · exact absurd (by rw [← he]) hs
        · exact he
  · by_cases hu2 : u = t.1
    · subst hu2
      right
      refine (h2 _).2 (Or.inr ⟨c, ha, ?_⟩)
      simp
    · simp [hu2] at hu
      rcases h.road u v c ha hu with ⟨h1, h3⟩ | h1
      · have : v ≠ t.1 := fun he => by rw [he] at h1; omega
        left; simp [this, hu2]; exact ⟨h1, h3⟩
      · rcases o.all _ h1 with he | he
        · left
          have e1 : v = t.1 := by rw [← he]
          have e2 : f u + c = t.2 := by rw [← he]
          simp [e1, hu2]; omega
        · right; simp [hu2]; exact (h2 _).2 (Or.inl he)
  · by_cases hv2 : v = t.1
    · obtain ⟨_, _, _, a3⟩ := tt
      rcases a3 with a3 | ⟨u, c, b1, b2, b3⟩
      · exact absurd (by rw [hv2, a3]) hv
      · have : u ≠ t.1 := fun he => by rw [he] at b2; omega
        refine ⟨u, c, by rw [hv2]; exact b1, by simp [this]; exact b2, by simp [this, hv2]; omega⟩
    · simp [hv2] at h0
      obtain ⟨u, c, b1, b2, b3⟩ := h.pre v hv h0
      have : u ≠ t.1 := fun he => by rw [he] at b2; omega
      exact ⟨u, c, b1, by simp [this]; exact b2, by simp [this, hv2]; exact b3⟩
end Go.Proofs.Ytlfgglmgajcpoaa.Pl
