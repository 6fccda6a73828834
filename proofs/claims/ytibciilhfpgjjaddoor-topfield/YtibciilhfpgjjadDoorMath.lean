/- Plain facts on lists of limbs: what noughts at the end are, what number limbs say. No program is named. -/
namespace Go.Proofs.YtibciilhfpgjjadDoor
set_option linter.unusedVariables false
set_option linter.unusedSimpArgs false

/-- How many of the first k limbs are left without noughts at the end. -/
def tl (xs : List Int) : Nat → Nat
  | 0 => 0
  | k + 1 => if xs.getD k 0 = 0 then tl xs k else k + 1

theorem tl_le (xs : List Int) (k : Nat) : tl xs k ≤ k := by
  induction k with
  | zero => exact Nat.le_refl _
  | succ k ih => unfold tl; split <;> omega

theorem tl_zero (xs : List Int) (k : Nat) (h : xs.getD k 0 = 0) : tl xs (k + 1) = tl xs k := by rw [tl, if_pos h]
theorem tl_pos (xs : List Int) (k : Nat) (h : ¬ xs.getD k 0 = 0) : tl xs (k + 1) = k + 1 := by rw [tl, if_neg h]

/-- Limbs without noughts at the end. -/
def tr (xs : List Int) : List Int := xs.take (tl xs xs.length)

theorem tr_length (xs : List Int) : (tr xs).length = tl xs xs.length := by
  unfold tr; rw [List.length_take]; have := tl_le xs xs.length; omega

theorem tr_length_le (xs : List Int) : (tr xs).length ≤ xs.length := by rw [tr_length]; exact tl_le _ _

/-- A limb's powers. -/
def pw (k : Nat) : Int := 4294967296 ^ k
theorem pw_zero : pw 0 = 1 := rfl
theorem pw_succ (k : Nat) : pw (k + 1) = 4294967296 * pw k := by unfold pw; rw [Int.pow_succ, Int.mul_comm]
theorem pw_pos (k : Nat) : 0 < pw k := by
  induction k with
  | zero => decide
  | succ k ih => rw [pw_succ]; omega
theorem pw_add (j k : Nat) : pw (j + k) = pw j * pw k := by unfold pw; rw [Int.pow_add]
theorem pw_mono {j k : Nat} (h : j ≤ k) : pw j ≤ pw k := by
  induction h with
  | refl => exact Int.le_refl _
  | step _ ih => rw [pw_succ]; have := pw_pos j; omega

/-- The number that limbs say, the lowest first. -/
def val : List Int → Int
  | [] => 0
  | x :: xs => x + 4294967296 * val xs

/-- Each one a limb. -/
def lim (xs : List Int) : Prop := ∀ x ∈ xs, 0 ≤ x ∧ x < 4294967296

theorem lim_nil : lim [] := fun _ h => by cases h
theorem lim_cons {x : Int} {xs : List Int} : lim (x :: xs) ↔ (0 ≤ x ∧ x < 4294967296) ∧ lim xs := by
  unfold lim; simp
theorem lim_append {xs ys : List Int} : lim (xs ++ ys) ↔ lim xs ∧ lim ys := by
  unfold lim
  constructor
  · intro h; exact ⟨fun x hx => h x (by simp [hx]), fun x hx => h x (by simp [hx])⟩
  · intro h x hx
    rcases List.mem_append.1 hx with hx | hx
    · exact h.1 x hx
    · exact h.2 x hx
theorem lim_take {xs : List Int} (h : lim xs) (k : Nat) : lim (xs.take k) := fun x hx => h x (List.mem_of_mem_take hx)
theorem lim_drop {xs : List Int} (h : lim xs) (k : Nat) : lim (xs.drop k) := fun x hx => h x (List.mem_of_mem_drop hx)
theorem lim_replicate (n : Nat) : lim (List.replicate n 0) := fun x hx => by
  have := List.eq_of_mem_replicate hx; omega
theorem lim_getD {xs : List Int} (h : lim xs) (k : Nat) : 0 ≤ xs.getD k 0 ∧ xs.getD k 0 < 4294967296 := by
  by_cases hk : k < xs.length
  · have e : xs.getD k 0 = xs[k] := by simp [List.getD, hk]
    rw [e]; exact h _ (List.getElem_mem hk)
  · have e : xs.getD k 0 = 0 := by simp [List.getD, List.getElem?_eq_none (Nat.le_of_not_lt hk)]
    rw [e]; omega
theorem lim_set {xs : List Int} (h : lim xs) (k : Nat) (v : Int) (hv : 0 ≤ v ∧ v < 4294967296) : lim (xs.set k v) := fun x hx => by
  rcases List.mem_or_eq_of_mem_set hx with hx | hx
  · exact h x hx
  · rw [hx]; exact hv

theorem val_append (xs ys : List Int) : val (xs ++ ys) = val xs + pw xs.length * val ys := by
  induction xs with
  | nil => simp [val, pw_zero]
  | cons x xs ih =>
    simp only [List.cons_append, val, ih, List.length_cons, pw_succ, Int.mul_add, Int.mul_assoc]
    omega

theorem val_split (xs : List Int) (k : Nat) (h : k ≤ xs.length) : val xs = val (xs.take k) + pw k * val (xs.drop k) := by
  have e := val_append (xs.take k) (xs.drop k)
  rw [List.take_append_drop] at e
  have l : (xs.take k).length = k := by simp; omega
  rw [l] at e; exact e

theorem val_bound {xs : List Int} (h : lim xs) : 0 ≤ val xs ∧ val xs < pw xs.length := by
  induction xs with
  | nil => simp [val, pw_zero]
  | cons x xs ih =>
    rw [lim_cons] at h
    have := ih h.2
    simp only [val, List.length_cons, pw_succ]
    omega

theorem val_replicate (n : Nat) : val (List.replicate n 0) = 0 := by
  induction n with
  | zero => rfl
  | succ n ih => rw [List.replicate_succ, val, ih]; rfl

theorem val_set (xs : List Int) (k : Nat) (v : Int) (h : k < xs.length) : val (xs.set k v) = val xs + (v - xs.getD k 0) * pw k := by
  induction xs generalizing k with
  | nil => simp at h
  | cons x xs ih =>
    cases k with
    | zero => simp [val, pw_zero]; omega
    | succ k =>
      have := ih k (by simpa using h)
      simp only [List.set_cons_succ, val, this, List.getD_cons_succ, pw_succ, Int.mul_add]
      rw [Int.mul_left_comm]; omega

theorem getD_set (xs : List Int) (k j : Nat) (v : Int) : (xs.set k v).getD j 0 = if k = j ∧ k < xs.length then v else xs.getD j 0 := by
  simp only [List.getD, List.getElem?_set]
  by_cases h : k = j
  · subst h
    by_cases h2 : k < xs.length
    · simp [h2]
    · simp [h2, List.getElem?_eq_none (Nat.le_of_not_lt h2)]
  · simp [h]

theorem take_succ_getD (xs : List Int) (k : Nat) (h : k < xs.length) : xs.take (k + 1) = xs.take k ++ [xs.getD k 0] := by
  rw [List.take_succ_eq_append_getElem h]; simp [List.getD, h]

theorem val_take_succ (xs : List Int) (k : Nat) (h : k < xs.length) : val (xs.take (k + 1)) = val (xs.take k) + xs.getD k 0 * pw k := by
  rw [take_succ_getD xs k h, val_append]
  have e : (xs.take k).length = k := by simp; omega
  rw [e]; simp only [val]; rw [Int.mul_comm (pw k)]; simp

theorem val_take_tl (xs : List Int) (k : Nat) (h : k ≤ xs.length) : val (xs.take (tl xs k)) = val (xs.take k) := by
  induction k with
  | zero => rfl
  | succ k ih =>
    by_cases h0 : xs.getD k 0 = 0
    · rw [tl_zero xs k h0, ih (by omega), val_take_succ xs k h, h0]; simp
    · rw [tl_pos xs k h0]

theorem val_tr (xs : List Int) : val (tr xs) = val xs := by
  unfold tr; rw [val_take_tl xs _ (Nat.le_refl _), List.take_length]

/-- Right limbs: no nought at the end. -/
def can (xs : List Int) : Prop := lim xs ∧ (xs.length = 0 ∨ ¬ xs.getD (xs.length - 1) 0 = 0)

theorem tl_last (xs : List Int) (k : Nat) : tl xs k = 0 ∨ ¬ xs.getD (tl xs k - 1) 0 = 0 := by
  induction k with
  | zero => exact Or.inl rfl
  | succ k ih =>
    by_cases h0 : xs.getD k 0 = 0
    · rw [tl_zero xs k h0]; exact ih
    · rw [tl_pos xs k h0]; exact Or.inr (by simpa using h0)

theorem tr_can {xs : List Int} (h : lim xs) : can (tr xs) := by
  refine ⟨lim_take h _, ?_⟩
  rw [tr_length]
  rcases tl_last xs xs.length with h | h
  · exact Or.inl h
  · by_cases h0 : tl xs xs.length = 0
    · exact Or.inl h0
    · refine Or.inr ?_
      unfold tr
      have e : (xs.take (tl xs xs.length)).getD (tl xs xs.length - 1) 0 = xs.getD (tl xs xs.length - 1) 0 := by
        simp only [List.getD, List.getElem?_take]
        rw [if_pos (by omega)]
      rw [e]; exact h

theorem can_low {xs : List Int} (h : can xs) (h0 : 0 < xs.length) : pw (xs.length - 1) ≤ val xs := by
  obtain ⟨k, hk⟩ : ∃ k, xs.length = k + 1 := ⟨xs.length - 1, by omega⟩
  have e : xs = xs.take (k + 1) := by rw [← hk, List.take_length]
  have h1 : val xs = val (xs.take k) + xs.getD k 0 * pw k := by rw [← val_take_succ xs k (by omega), ← e]
  have h2 := (val_bound (lim_take h.1 k)).1
  have h3 := lim_getD h.1 k
  have h4 : ¬ xs.getD k 0 = 0 := by
    rcases h.2 with h | h
    · omega
    · rw [hk] at h; simpa using h
  have h5 : 1 * pw k ≤ xs.getD k 0 * pw k := Int.mul_le_mul_of_nonneg_right (by omega) (Int.le_of_lt (pw_pos k))
  rw [hk]; simp only [Nat.add_sub_cancel]; omega

theorem val_inj_len {xs ys : List Int} (hx : lim xs) (hy : lim ys) (hl : xs.length = ys.length) (h : val xs = val ys) : xs = ys := by
  induction xs generalizing ys with
  | nil => cases ys with
    | nil => rfl
    | cons => simp at hl
  | cons x xs ih => cases ys with
    | nil => simp at hl
    | cons y ys =>
      rw [lim_cons] at hx hy
      simp only [val] at h
      have h1 : x = y := by omega
      have h2 : val xs = val ys := by omega
      rw [h1, ih hx.2 hy.2 (by simpa using hl) h2]

theorem can_len_lt {xs ys : List Int} (hx : can xs) (hy : can ys) (h : xs.length < ys.length) : val xs < val ys := by
  have h1 := (val_bound hx.1).2
  have h2 := can_low hy (by omega)
  have h3 := pw_mono (j := xs.length) (k := ys.length - 1) (by omega)
  omega

theorem can_inj {xs ys : List Int} (hx : can xs) (hy : can ys) (h : val xs = val ys) : xs = ys := by
  refine val_inj_len hx.1 hy.1 ?_ h
  rcases Nat.lt_trichotomy xs.length ys.length with hl | hl | hl
  · have := can_len_lt hx hy hl; omega
  · exact hl
  · have := can_len_lt hy hx hl; omega

theorem can_zero {xs : List Int} (h : can xs) : xs.length = 0 ↔ val xs = 0 := by
  constructor
  · intro h0
    have e : xs = [] := List.eq_nil_of_length_eq_zero h0
    rw [e]; rfl
  · intro h0
    by_cases h1 : 0 < xs.length
    · have := can_low h h1; have := pw_pos (xs.length - 1); omega
    · omega

/-- Limbs from place k on, compared from the top: what is below decides nothing. -/
theorem val_lt_top {xs ys : List Int} (hx : lim xs) (hy : lim ys) (hl : xs.length = ys.length) (k : Nat) (hk : k < xs.length) (hd : xs.drop (k + 1) = ys.drop (k + 1)) (h : xs.getD k 0 < ys.getD k 0) : val xs < val ys := by
  have ex := val_split xs (k + 1) (by omega)
  have ey := val_split ys (k + 1) (by omega)
  rw [hd] at ex
  have bx := val_bound (lim_take hx k)
  have by' := val_bound (lim_take hy k)
  have lk : (xs.take k).length = k := by simp; omega
  rw [lk] at bx
  rw [ex, ey, val_take_succ xs k hk, val_take_succ ys k (by omega)]
  have h5 : (xs.getD k 0 + 1) * pw k ≤ ys.getD k 0 * pw k := Int.mul_le_mul_of_nonneg_right (by omega) (Int.le_of_lt (pw_pos k))
  rw [Int.add_mul, Int.one_mul] at h5
  omega

theorem drop_eq_step (xs ys : List Int) (k : Nat) (hx : k < xs.length) (hy : k < ys.length) (hd : xs.drop (k + 1) = ys.drop (k + 1)) (h : xs.getD k 0 = ys.getD k 0) : xs.drop k = ys.drop k := by
  have e1 : xs.drop k = xs.getD k 0 :: xs.drop (k + 1) := by rw [List.drop_eq_getElem_cons hx]; simp [List.getD, hx]
  have e2 : ys.drop k = ys.getD k 0 :: ys.drop (k + 1) := by rw [List.drop_eq_getElem_cons hy]; simp [List.getD, hy]
  rw [e1, e2, hd, h]

/-- Which of two is greater, as Go's answers say it. -/
def cmpI (a b : Int) : Int := if a < b then -1 else if a = b then 0 else 1
theorem cmpI_lt {a b : Int} (h : a < b) : cmpI a b = -1 := by unfold cmpI; rw [if_pos h]
theorem cmpI_eq {a b : Int} (h : a = b) : cmpI a b = 0 := by unfold cmpI; rw [if_neg (by omega), if_pos h]
theorem cmpI_gt {a b : Int} (h : b < a) : cmpI a b = 1 := by unfold cmpI; rw [if_neg (by omega), if_neg (by omega)]

end Go.Proofs.YtibciilhfpgjjadDoor
