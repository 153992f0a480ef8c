/- Frames in plain words: a text's frame, and what the texts of a stream of frames are. No program is named here. -/
import Derived.Test.YtjjaklhpdckppaaDoorCt
import Derived.Test.YtjjaklhpdckppaaDoorSum
namespace Go.Proofs.YtjjaklhpdckppaaDoor.Pl
open Go
set_option linter.unusedVariables false

/-- the sum of a text. -/
def sumT (s : ByteArray) : Nat := sumL 4294967295 s.data.toList
theorem sumT_lt (s : ByteArray) : sumT s < 4294967296 := sumL_lt _ (by decide)

/-- what stands ahead of a text in its frame. -/
def headI (s : ByteArray) : List Int := [((s.size % 256 : Nat) : Int), ((sumT s / 256 % 256 : Nat) : Int), ((sumT s % 256 : Nat) : Int)]
def headS (s : ByteArray) : ByteArray := strOfNums (headI s)
theorem headS_size (s : ByteArray) : (headS s).size = 3 := by rw [headS, strOfNums_size]; rfl
def frameS (s : ByteArray) : ByteArray := headS s ++ s
theorem frameS_size (s : ByteArray) : (frameS s).size = s.size + 3 := by rw [frameS, ByteArray.size_append, headS_size]; omega

theorem headS_zero (s : ByteArray) (h : 0 < (headS s).size) : ((headS s)[0]'h).toNat = s.size % 256 := by
  have e : (headS s).data.toList = (headI s).map fun z => UInt8.ofNat z.toNat := by rw [headS, strOfNums_data]
  have h1 : (headS s)[0]'h = UInt8.ofNat ((s.size % 256 : Nat) : Int).toNat := by
    show (headS s).data[0] = _
    rw [← Array.getElem_toList]
    simp only [e]
    rfl
  rw [h1, Int.toNat_natCast, UInt8.toNat_ofNat']
  omega

/-- the length that a stream begins with. -/
def len0 (t : ByteArray) : Nat := (t.data.toList.headD 0).toNat
theorem len0_lt (t : ByteArray) : len0 t < 256 := UInt8.toNat_lt _
theorem headD_get : ∀ (l : List UInt8) (h : 0 < l.length), l.headD 0 = l[0]'h
  | _ :: _, _ => rfl
theorem len0_at (t : ByteArray) (h : 0 < t.size) : (t[0]'h).toNat = len0 t := by
  have : t.data.toList.headD 0 = t[0]'h := by
    show _ = t.data[0]
    rw [← Array.getElem_toList]
    exact headD_get _ h
  rw [len0, this]
theorem len0_append (a b : ByteArray) (h : 0 < a.size) : len0 (a ++ b) = len0 a := by
  unfold len0
  rw [append_list]
  cases e : a.data.toList with
  | nil => rw [← size_list, e] at h; exact absurd h (by simp)
  | cons x l => rfl

/-- the text of the frame that a stream begins with, and what is behind it. -/
def text0 (t : ByteArray) : ByteArray := t.extract 3 (3 + len0 t)
def rest0 (t : ByteArray) : ByteArray := t.extract (3 + len0 t) t.size

/-- a stream whose first frame is whole and right. -/
def Whole (t : ByteArray) : Prop := 0 < t.size ∧ len0 t ≤ 60 ∧ 3 + len0 t ≤ t.size ∧ t.extract 0 3 = headS (text0 t)
/-- a stream that begins with no whole and right frame: nothing, a length that is none, a part, a frame that is torn. -/
def Ends (t : ByteArray) (ss : List ByteArray) (r : ByteArray) (b : Bool) : Prop :=
  (t.size = 0 ∧ ss = [] ∧ r = ByteArray.empty ∧ b = false) ∨
  (0 < t.size ∧ 60 < len0 t ∧ ss = [] ∧ r = ByteArray.empty ∧ b = true) ∨
  (0 < t.size ∧ len0 t ≤ 60 ∧ t.size < 3 + len0 t ∧ ss = [] ∧ r = t ∧ b = false) ∨
  (0 < t.size ∧ len0 t ≤ 60 ∧ 3 + len0 t ≤ t.size ∧ t.extract 0 3 ≠ headS (text0 t) ∧ ss = [] ∧ r = ByteArray.empty ∧ b = true)
/-- .. and with at most n frames ahead of that. -/
def FedN : Nat → ByteArray → List ByteArray → ByteArray → Bool → Prop
  | 0, t, ss, r, b => Ends t ss r b
  | n + 1, t, ss, r, b => Ends t ss r b ∨ (Whole t ∧ ∃ ss', ss = text0 t :: ss' ∧ FedN n (rest0 t) ss' r b)
/-- the stream t gives the texts ss; r is left; b: it is torn. -/
def Fed (t : ByteArray) (ss : List ByteArray) (r : ByteArray) (b : Bool) : Prop := ∃ n, FedN n t ss r b

theorem Fed.none (t : ByteArray) (h : t.size = 0) : Fed t [] ByteArray.empty false := ⟨0, .inl ⟨h, rfl, rfl, rfl⟩⟩
theorem Fed.big (t : ByteArray) (h0 : 0 < t.size) (h1 : 60 < len0 t) : Fed t [] ByteArray.empty true := ⟨0, .inr (.inl ⟨h0, h1, rfl, rfl, rfl⟩)⟩
theorem Fed.part (t : ByteArray) (h0 : 0 < t.size) (h1 : len0 t ≤ 60) (h2 : t.size < 3 + len0 t) : Fed t [] t false := ⟨0, .inr (.inr (.inl ⟨h0, h1, h2, rfl, rfl, rfl⟩))⟩
theorem Fed.torn (t : ByteArray) (h0 : 0 < t.size) (h1 : len0 t ≤ 60) (h2 : 3 + len0 t ≤ t.size) (h3 : t.extract 0 3 ≠ headS (text0 t)) : Fed t [] ByteArray.empty true := ⟨0, .inr (.inr (.inr ⟨h0, h1, h2, h3, rfl, rfl, rfl⟩))⟩
theorem Fed.whole (t : ByteArray) (ss : List ByteArray) (r : ByteArray) (b : Bool) (h0 : 0 < t.size) (h1 : len0 t ≤ 60) (h2 : 3 + len0 t ≤ t.size) (h3 : t.extract 0 3 = headS (text0 t)) (h4 : Fed (rest0 t) ss r b) : Fed t (text0 t :: ss) r b := by
  obtain ⟨n, h⟩ := h4
  exact ⟨n + 1, .inr ⟨⟨h0, h1, h2, h3⟩, ss, rfl, h⟩⟩

/-- what a stream gives, case by case. -/
theorem fed_inv {t : ByteArray} {ss : List ByteArray} {r : ByteArray} {b : Bool} (h : Fed t ss r b) :
    (t.size = 0 ∧ ss = [] ∧ r = ByteArray.empty ∧ b = false) ∨
    (0 < t.size ∧ 60 < len0 t ∧ ss = [] ∧ r = ByteArray.empty ∧ b = true) ∨
    (0 < t.size ∧ len0 t ≤ 60 ∧ t.size < 3 + len0 t ∧ ss = [] ∧ r = t ∧ b = false) ∨
    (0 < t.size ∧ len0 t ≤ 60 ∧ 3 + len0 t ≤ t.size ∧ t.extract 0 3 ≠ headS (text0 t) ∧ ss = [] ∧ r = ByteArray.empty ∧ b = true) ∨
    (∃ ss', 0 < t.size ∧ len0 t ≤ 60 ∧ 3 + len0 t ≤ t.size ∧ t.extract 0 3 = headS (text0 t) ∧ ss = text0 t :: ss' ∧ Fed (rest0 t) ss' r b) := by
  obtain ⟨n, h⟩ := h
  have h' : Ends t ss r b ∨ (Whole t ∧ ∃ ss', ss = text0 t :: ss' ∧ ∃ m, FedN m (rest0 t) ss' r b) := by
    cases n with
    | zero => exact .inl h
    | succ n =>
      rcases h with h | ⟨hw, ss', e, h5⟩
      · exact .inl h
      · exact .inr ⟨hw, ss', e, n, h5⟩
  rcases h' with (h | h | h | h) | ⟨⟨h0, h1, h2, h3⟩, ss', e, h5⟩
  · exact .inl h
  · exact .inr (.inl h)
  · exact .inr (.inr (.inl h))
  · exact .inr (.inr (.inr (.inl h)))
  · exact .inr (.inr (.inr (.inr ⟨ss', h0, h1, h2, h3, e, h5⟩)))

theorem fed_ind {M : ByteArray → List ByteArray → ByteArray → Bool → Prop}
    (m0 : ∀ t, t.size = 0 → M t [] ByteArray.empty false)
    (m1 : ∀ t, 0 < t.size → 60 < len0 t → M t [] ByteArray.empty true)
    (m2 : ∀ t, 0 < t.size → len0 t ≤ 60 → t.size < 3 + len0 t → M t [] t false)
    (m3 : ∀ t, 0 < t.size → len0 t ≤ 60 → 3 + len0 t ≤ t.size → t.extract 0 3 ≠ headS (text0 t) → M t [] ByteArray.empty true)
    (m4 : ∀ t ss r b, 0 < t.size → len0 t ≤ 60 → 3 + len0 t ≤ t.size → t.extract 0 3 = headS (text0 t) → M (rest0 t) ss r b → M t (text0 t :: ss) r b)
    {t : ByteArray} {ss : List ByteArray} {r : ByteArray} {b : Bool} (h : Fed t ss r b) : M t ss r b := by
  have ends : ∀ t ss r b, Ends t ss r b → M t ss r b := fun t ss r b h => by
    rcases h with ⟨h, rfl, rfl, rfl⟩ | ⟨h0, h1, rfl, rfl, rfl⟩ | ⟨h0, h1, h2, rfl, rfl, rfl⟩ | ⟨h0, h1, h2, h3, rfl, rfl, rfl⟩
    · exact m0 _ h
    · exact m1 _ h0 h1
    · exact m2 _ h0 h1 h2
    · exact m3 _ h0 h1 h2 h3
  obtain ⟨n, h⟩ := h
  induction n generalizing t ss with
  | zero => exact ends _ _ _ _ h
  | succ n ih =>
    rcases h with h | ⟨⟨h0, h1, h2, h3⟩, ss', rfl, h5⟩
    · exact ends _ _ _ _ h
    · exact m4 t ss' r b h0 h1 h2 h3 (ih h5)

theorem rest0_size (t : ByteArray) : (rest0 t).size = t.size - (3 + len0 t) := by rw [rest0, ByteArray.size_extract]; omega
theorem text0_size (t : ByteArray) (h : 3 + len0 t ≤ t.size) : (text0 t).size = len0 t := by rw [text0, ByteArray.size_extract]; omega

/-- every stream gives something. -/
theorem fed_some (t : ByteArray) : ∃ ss r b, Fed t ss r b := by
  suffices h : ∀ n (t : ByteArray), t.size = n → ∃ ss r b, Fed t ss r b from h _ t rfl
  intro n
  induction n using Nat.strongRecOn with
  | ind n ih =>
    intro t ht
    by_cases h0 : t.size = 0
    · exact ⟨_, _, _, Fed.none t h0⟩
    by_cases h1 : 60 < len0 t
    · exact ⟨_, _, _, Fed.big t (by omega) h1⟩
    by_cases h2 : t.size < 3 + len0 t
    · exact ⟨_, _, _, Fed.part t (by omega) (by omega) h2⟩
    by_cases h3 : t.extract 0 3 = headS (text0 t)
    · obtain ⟨ss, r, b, h⟩ := ih (rest0 t).size (by rw [rest0_size]; omega) _ rfl
      exact ⟨_, _, _, Fed.whole t ss r b (by omega) (by omega) (by omega) h3 h⟩
    · exact ⟨_, _, _, Fed.torn t (by omega) (by omega) (by omega) h3⟩

theorem fed_len {t : ByteArray} {ss : List ByteArray} {r : ByteArray} {b : Bool} (h : Fed t ss r b) : ss.length ≤ t.size := by
  refine fed_ind (M := fun t ss r b => ss.length ≤ t.size) (fun _ _ => Nat.zero_le _) (fun _ _ _ => Nat.zero_le _) (fun _ _ _ _ => Nat.zero_le _) (fun _ _ _ _ _ => Nat.zero_le _) ?_ h
  intro t ss r b h0 h1 h2 h3 ih
  rw [rest0_size] at ih
  rw [List.length_cons]
  omega
theorem fed_rest {t : ByteArray} {ss : List ByteArray} {r : ByteArray} {b : Bool} (h : Fed t ss r b) : r.size ≤ t.size := by
  refine fed_ind (M := fun t ss r b => r.size ≤ t.size) (fun _ _ => Nat.zero_le _) (fun _ _ _ => Nat.zero_le _) (fun _ _ _ _ => Nat.le_refl _) (fun _ _ _ _ _ => Nat.zero_le _) ?_ h
  intro t ss r b h0 h1 h2 h3 ih
  rw [rest0_size] at ih
  omega

theorem append_extract {a b : ByteArray} {i j : Nat} (h : j ≤ a.size) : (a ++ b).extract i j = a.extract i j := by
  apply ext_list
  rw [extract_list, extract_list, append_list, List.take_append_of_le_length (by rw [size_list]; exact h)]
theorem text0_append {a b : ByteArray} (h0 : 0 < a.size) (h : 3 + len0 a ≤ a.size) : text0 (a ++ b) = text0 a := by
  rw [text0, text0, len0_append a b h0, append_extract h]
theorem rest0_append {a b : ByteArray} (h0 : 0 < a.size) (h : 3 + len0 a ≤ a.size) : rest0 (a ++ b) = rest0 a ++ b := by
  apply ext_list
  rw [rest0, rest0, append_list, extract_list, extract_list, len0_append a b h0, append_list]
  rw [List.take_of_length_le (by rw [List.length_append, size_list, size_list, ByteArray.size_append]; exact Nat.le_refl _), List.drop_append_of_le_length (by rw [size_list]; exact h), List.take_of_length_le (by rw [size_list]; exact Nat.le_refl _)]

/-- what is fed in two pieces is as what is fed at once. -/
theorem fed_split {a : ByteArray} {ss1 : List ByteArray} {r1 : ByteArray} {b1 : Bool} (h : Fed a ss1 r1 b1) : ∀ {q : ByteArray} {ss : List ByteArray} {r : ByteArray}, Fed (a ++ q) ss r false → b1 = false ∧ ∃ ss2, ss = ss1 ++ ss2 ∧ Fed (r1 ++ q) ss2 r false := by
  refine fed_ind (M := fun a ss1 r1 b1 => ∀ {q : ByteArray} {ss : List ByteArray} {r : ByteArray}, Fed (a ++ q) ss r false → b1 = false ∧ ∃ ss2, ss = ss1 ++ ss2 ∧ Fed (r1 ++ q) ss2 r false) ?_ ?_ ?_ ?_ ?_ h
  · intro t h0 q ss r h
    have e : t = ByteArray.empty := by
      apply ext_list
      exact List.eq_nil_of_length_eq_zero h0
    rw [e] at h
    exact ⟨rfl, ss, rfl, h⟩
  · intro t h0 h1 q ss r h
    have hl := len0_append t q h0
    have hs : 0 < (t ++ q).size := by rw [ByteArray.size_append]; omega
    generalize t ++ q = T at h hl hs
    rcases fed_inv h with ⟨g0, _⟩ | ⟨_, _, _, _, g⟩ | ⟨_, g1, _⟩ | ⟨_, _, _, _, _, _, g⟩ | ⟨ss', _, g1, _⟩
    · omega
    · cases g
    · omega
    · cases g
    · omega
  · intro t h0 h1 h2 q ss r h
    exact ⟨rfl, ss, rfl, h⟩
  · intro t h0 h1 h2 h3 q ss r h
    have hl := len0_append t q h0
    have ht := text0_append (b := q) h0 h2
    have he := append_extract (b := q) (i := 0) (show 3 ≤ t.size by omega)
    have hs : t.size ≤ (t ++ q).size := by rw [ByteArray.size_append]; omega
    generalize t ++ q = T at h hl ht he hs
    rcases fed_inv h with ⟨g0, _⟩ | ⟨_, _, _, _, g⟩ | ⟨_, _, g2, _⟩ | ⟨_, _, _, _, _, _, g⟩ | ⟨ss', _, _, _, g3, _⟩
    · omega
    · cases g
    · omega
    · cases g
    · rw [ht, he] at g3
      exact absurd g3 h3
  · intro t ss1 r1 b1 h0 h1 h2 h3 ih q ss r h
    have hl := len0_append t q h0
    have ht := text0_append (b := q) h0 h2
    have hr := rest0_append (b := q) h0 h2
    have hs : t.size ≤ (t ++ q).size := by rw [ByteArray.size_append]; omega
    generalize t ++ q = T at h hl ht hr hs
    rcases fed_inv h with ⟨g0, _⟩ | ⟨_, _, _, _, g⟩ | ⟨_, _, g2, _⟩ | ⟨_, _, _, _, _, _, g⟩ | ⟨ss', _, _, _, _, g4, g5⟩
    · omega
    · cases g
    · omega
    · cases g
    · rw [hr] at g5
      obtain ⟨e, ss2, rfl, h5⟩ := ih g5
      exact ⟨e, ss2, by rw [g4, ht]; rfl, h5⟩

/-- what is left gives nothing more. -/
theorem fed_still {t : ByteArray} {ss : List ByteArray} {r : ByteArray} {b : Bool} (h : Fed t ss r b) : b = false → Fed r [] r false :=
  fed_ind (M := fun _ _ r b => b = false → Fed r [] r false) (fun _ _ _ => Fed.none _ rfl) (fun _ _ _ h => by cases h) (fun t h0 h1 h2 _ => Fed.part t h0 h1 h2) (fun _ _ _ _ _ h => by cases h) (fun _ _ _ _ _ _ _ _ ih => ih) h
theorem fed_done {r : ByteArray} {ss : List ByteArray} (h1 : Fed r [] r false) (h2 : Fed r ss ByteArray.empty false) : ss = [] ∧ r = ByteArray.empty := by
  rcases fed_inv h2 with ⟨h0, e, _⟩ | ⟨_, _, _, _, g⟩ | ⟨h0, _, _, _, e, _⟩ | ⟨_, _, _, _, _, _, g⟩ | ⟨ss', g0, g1, g2, g3, e, g5⟩
  · exact ⟨e, ext_list (List.eq_nil_of_length_eq_zero h0)⟩
  · cases g
  · rw [← e] at h0
    exact absurd h0 (by decide)
  · cases g
  · rcases fed_inv h1 with ⟨h0, _⟩ | ⟨_, _, _, _, g⟩ | ⟨_, _, h2, _⟩ | ⟨_, _, _, _, _, _, g⟩ | ⟨_, _, _, _, _, e, _⟩
    · omega
    · cases g
    · omega
    · cases g
    · cases e
/-- of what is torn nothing is left. -/
theorem fed_bad {t : ByteArray} {ss : List ByteArray} {r : ByteArray} {b : Bool} (h : Fed t ss r b) : b = true → r = ByteArray.empty :=
  fed_ind (M := fun _ _ r b => b = true → r = ByteArray.empty) (fun _ _ h => by cases h) (fun _ _ _ _ => rfl) (fun _ _ _ _ h => by cases h) (fun _ _ _ _ _ _ => rfl) (fun _ _ _ _ _ _ _ _ ih => ih) h

/-! a text's frame, and frames one behind the other. -/
theorem frame_len0 {s : ByteArray} (hs : s.size ≤ 60) (q : ByteArray) : len0 (frameS s ++ q) = s.size := by
  have h : 0 < (frameS s).size := by rw [frameS_size]; omega
  rw [len0_append _ _ h, frameS, len0_append _ _ (by rw [headS_size]; omega), ← len0_at _ (by rw [headS_size]; omega), headS_zero]
  omega
theorem frame_text0 {s : ByteArray} (hs : s.size ≤ 60) (q : ByteArray) : text0 (frameS s ++ q) = s := by
  apply ext_list
  rw [text0, frame_len0 hs, extract_list, append_list, List.take_append_of_le_length (by rw [size_list, frameS_size]; omega), List.take_of_length_le (by rw [size_list, frameS_size]; omega), frameS, append_list]
  exact List.drop_left' (by rw [size_list, headS_size])
theorem frame_head0 (s q : ByteArray) : (frameS s ++ q).extract 0 3 = headS s := by
  apply ext_list
  rw [extract_list, append_list, List.take_append_of_le_length (by rw [size_list, frameS_size]; omega), frameS, append_list, List.drop_zero]
  exact List.take_left' (by rw [size_list, headS_size])
theorem frame_rest0 {s : ByteArray} (hs : s.size ≤ 60) (q : ByteArray) : rest0 (frameS s ++ q) = q := by
  apply ext_list
  rw [rest0, frame_len0 hs, extract_list, append_list, List.take_of_length_le (by rw [List.length_append, size_list, size_list, ByteArray.size_append]; exact Nat.le_refl _)]
  exact List.drop_left' (by rw [size_list, frameS_size]; omega)

theorem fed_frames : ∀ ts : List ByteArray, (∀ t ∈ ts, t.size ≤ 60) → Fed (catL (ts.map frameS)) ts ByteArray.empty false
  | [], _ => Fed.none _ rfl
  | s :: ts, h => by
    have hs := h s (List.mem_cons_self ..)
    rw [List.map_cons, catL_cons]
    have h1 := frame_text0 hs (catL (ts.map frameS))
    have h2 := Fed.whole (frameS s ++ catL (ts.map frameS)) ts ByteArray.empty false (by rw [ByteArray.size_append, frameS_size]; omega) (by rw [frame_len0 hs]; exact hs) (by rw [frame_len0 hs, ByteArray.size_append, frameS_size]; omega)
      (by rw [frame_head0, h1]) (by rw [frame_rest0 hs]; exact fed_frames ts fun t ht => h t (List.mem_cons_of_mem _ ht))
    rw [h1] at h2
    exact h2
end Go.Proofs.YtjjaklhpdckppaaDoor.Pl
