/- Plain facts on texts: where a mark stands, what a macron is, byte by byte and character by character. -/
import Derived.Lib.RuneCount
import Derived.Laws.RangeAny
import Derived.Test.YtadkbcehhdcfaaaDoorJ3
import Derived.Lib.OthersKept
import Derived.Test.YtadkbcehhdcfaaaDoorJ1
import Derived.Test.YtadkbcehhdcfaaaDoorJ4
import Derived.Test.YtadkbcehhdcfaaaDoorJ2
namespace Go.Proofs.YtadkbcehhdcfaaaDoor
set_option linter.unusedVariables false
set_option linter.unusedSimpArgs false

theorem get_is (s : ByteArray) (p : Nat) (h : p < s.size) : s.get! p = s[p]'h := by
  simp [ByteArray.get!, getElem!_pos, h]
  rfl
theorem get_data (s : ByteArray) (p : Nat) (h : p < s.size) : s.data.toList[p]? = some (s.get! p) := by
  rw [get_is s p h]
  have h' : p < s.data.toList.length := by simpa using h
  rw [List.getElem?_eq_getElem h']
  rfl

/-- What stands behind a character's first byte is no ASCII. -/
theorem dec_cont (s : ByteArray) (pos j : Nat) (h1 : pos < j) (h2 : j < pos + (Utf8.decode s pos).2) : j < s.size ∧ 128 ≤ (s.get! j).toNat := by
  simp only [Utf8.decode] at h2
  split at h2
  · simp at h2; omega
  split at h2
  · rename_i h3
    simp only [Bool.and_eq_true, decide_eq_true_eq, beq_iff_eq] at h3
    split at h2
    · simp at h2
      obtain rfl : j = pos + 1 := by omega
      exact ⟨h3.2.1, by omega⟩
    · simp at h2; omega
  split at h2
  · rename_i h3
    simp only [Bool.and_eq_true, decide_eq_true_eq, beq_iff_eq] at h3
    split at h2
    · simp at h2
      have : j = pos + 1 ∨ j = pos + 2 := by omega
      rcases this with rfl | rfl
      · exact ⟨h3.1.2.1, by omega⟩
      · exact ⟨h3.2.1, by omega⟩
    · simp at h2; omega
  split at h2
  · rename_i h3
    simp only [Bool.and_eq_true, decide_eq_true_eq, beq_iff_eq] at h3
    split at h2
    · simp at h2
      have : j = pos + 1 ∨ j = pos + 2 ∨ j = pos + 3 := by omega
      rcases this with rfl | rfl | rfl
      · exact ⟨h3.1.1.2.1, by omega⟩
      · exact ⟨h3.1.2.1, by omega⟩
      · exact ⟨h3.2.1, by omega⟩
    · simp at h2; omega
  · simp at h2; omega

/-- A character below 128 is its byte. -/
theorem dec_low (s : ByteArray) (pos : Nat) (h : pos < s.size) (hd : (Utf8.decode s pos).1 < 128) : (s.get! pos).toNat = (Utf8.decode s pos).1 ∧ (Utf8.decode s pos).2 = 1 := by
  by_cases ha : (s[pos]'h).toNat < 128
  · rw [decode_ascii s pos h ha, get_is s pos h]
    exact ⟨rfl, rfl⟩
  · have := (decode_high s pos h (by omega)).1
    omega
theorem dec_ascii (s : ByteArray) (pos : Nat) (h : pos < s.size) (ha : (s.get! pos).toNat < 128) : Utf8.decode s pos = ((s.get! pos).toNat, 1) := by
  rw [get_is s pos h] at ha ⊢
  exact decode_ascii s pos h ha

/-- Does a text begin with a macron? -/
def isMac (l : List UInt8) : Bool := match l with | a :: b :: _ => a.toNat == 194 && b.toNat == 175 | _ => false
theorem isMac_get (s : ByteArray) : isMac s.data.toList = true ↔ 1 < s.size ∧ (s.get! 0).toNat = 194 ∧ (s.get! 1).toNat = 175 := by
  have hs : s.size = s.data.toList.length := by simp
  constructor
  · intro h
    cases hl : s.data.toList with
    | nil => rw [hl] at h; cases h
    | cons a l =>
      cases l with
      | nil => rw [hl] at h; cases h
      | cons b l =>
        rw [hl] at h hs
        have hs1 : 1 < s.size := by rw [hs]; simp
        have g0 := get_data s 0 (by omega)
        have g1 := get_data s 1 hs1
        rw [hl] at g0 g1
        simp at g0 g1
        simp [isMac] at h
        rw [← g0, ← g1]
        exact ⟨hs1, h⟩
  · rintro ⟨h1, h2, h3⟩
    have g0 := get_data s 0 (by omega)
    have g1 := get_data s 1 h1
    cases hl : s.data.toList with
    | nil => rw [hl] at hs; simp only [List.length_nil] at hs; omega
    | cons a l =>
      cases l with
      | nil => rw [hl] at hs; simp only [List.length_cons, List.length_nil] at hs; omega
      | cons b l =>
        rw [hl] at g0 g1
        simp at g0 g1
        simp [isMac]
        rw [g0, g1]
        exact ⟨h2, h3⟩
set_option maxRecDepth 10000 in
theorem dec_mac (s : ByteArray) (h : 0 < s.size) : ((Utf8.decode s 0).1 = 175 ↔ isMac s.data.toList = true) ∧ ((Utf8.decode s 0).1 = 175 → (Utf8.decode s 0).2 = 2) := by
  rw [isMac_get]
  have e0 : (0 : Nat) + 0 = 0 := rfl
  have e1 : (0 : Nat) + 1 = 1 := rfl
  simp only [Utf8.decode, e0, e1]
  have b0 := (s.get! 0).toNat_lt
  have b1 := (s.get! 1).toNat_lt
  have b2 := (s.get! (0 + 2)).toNat_lt
  have b3 := (s.get! (0 + 3)).toNat_lt
  split
  · simp; omega
  split
  · rename_i h3
    simp only [Bool.and_eq_true, decide_eq_true_eq, beq_iff_eq] at h3
    split
    · simp; omega
    · simp [Utf8.runeError]; omega
  rename_i hn
  have hn' : ¬ (1 < s.size ∧ (s.get! 0).toNat = 194 ∧ (s.get! 1).toNat = 175) := by
    rintro ⟨q1, q2, q3⟩
    simp [q1, q2, q3] at hn
  split
  · split
    · rename_i h4
      simp at h4
      refine ⟨⟨fun h => ?_, fun h => absurd h hn'⟩, fun h => ?_⟩ <;> (simp at h; omega)
    · refine ⟨⟨fun h => ?_, fun h => absurd h hn'⟩, fun h => ?_⟩ <;> (simp [Utf8.runeError] at h)
  split
  · split
    · rename_i h4
      simp at h4
      refine ⟨⟨fun h => ?_, fun h => absurd h hn'⟩, fun h => ?_⟩ <;> (simp at h; omega)
    · refine ⟨⟨fun h => ?_, fun h => absurd h hn'⟩, fun h => ?_⟩ <;> (simp [Utf8.runeError] at h)
  · refine ⟨⟨fun h => ?_, fun h => absurd h hn'⟩, fun h => ?_⟩ <;> (simp [Utf8.runeError] at h)
end Go.Proofs.YtadkbcehhdcfaaaDoor

/- Where a number's text is cut: plain facts. -/
namespace Go.Proofs.YtadkbcehhdcfaaaDoor
set_option linter.unusedVariables false
set_option linter.unusedSimpArgs false

def isM (b : UInt8) : Prop := b.toNat = 46 ∨ b.toNat = 114
/-- Where a number's digits begin. -/
def st (l : List UInt8) : Nat := if isMac l = true then 2 else 0
/-- What a text's parts are. -/
def Cuts (l : List UInt8) (B : Bool) (m : Int) (A H : List UInt8) : Prop :=
  B = isMac l ∧ ((m = 0 ∧ A = l.drop (st l) ∧ H = [] ∧ ∀ y ∈ A, ¬ isM y) ∨ ∃ x, isM x ∧ m = (x.toNat : Int) ∧ l.drop (st l) = A ++ x :: H ∧ ∀ y ∈ A, ¬ isM y)

/-- What holds when so many bytes have been looked at. -/
def CutInv (s : ByteArray) (pos F : Nat) (B : Bool) (m : Int) (A : ByteArray) : Prop :=
  pos ≤ s.size ∧ F ≤ s.size ∧ F ≤ pos ∧ ((pos = 0 ∧ F = 0 ∧ B = false ∧ m = 0 ∧ A = ⟨#[]⟩) ∨ (0 < pos ∧ B = isMac s.data.toList ∧ st s.data.toList ≤ pos ∧
    ((m = 0 ∧ A = ⟨#[]⟩ ∧ F = st s.data.toList ∧ ∀ j, st s.data.toList ≤ j → j < pos → ¬ isM (s.get! j)) ∨
     (∃ k, st s.data.toList ≤ k ∧ k < pos ∧ isM (s.get! k) ∧ m = ((s.get! k).toNat : Int) ∧ A = s.extract (st s.data.toList) k ∧ F = k + 1 ∧ ∀ j, st s.data.toList ≤ j → j < k → ¬ isM (s.get! j)))))

theorem cutInv_start (s : ByteArray) : CutInv s 0 0 false 0 ⟨#[]⟩ := ⟨Nat.zero_le _, Nat.zero_le _, Nat.le_refl _, Or.inl ⟨rfl, rfl, rfl, rfl, rfl⟩⟩

theorem dec_end (s : ByteArray) (pos : Nat) (h : pos < s.size) : pos + (Utf8.decode s pos).2 ≤ s.size := by
  have hw := Lib.decode_width_pos s pos h
  by_cases h1 : (Utf8.decode s pos).2 = 1
  · omega
  · have := (dec_cont s pos (pos + (Utf8.decode s pos).2 - 1) (by omega) (by omega)).1
    omega

theorem isM_dec (s : ByteArray) (pos j : Nat) (h : pos < s.size) (h1 : pos ≤ j) (h2 : j < pos + (Utf8.decode s pos).2) (hm : isM (s.get! j)) : j = pos ∧ (Utf8.decode s pos).1 = (s.get! pos).toNat ∧ (Utf8.decode s pos).2 = 1 := by
  unfold isM at hm
  rcases Nat.lt_or_ge pos j with h3 | h3
  · have := (dec_cont s pos j h3 h2).2
    omega
  · obtain rfl : j = pos := by omega
    rw [dec_ascii s j h (by omega)]
    exact ⟨rfl, rfl, rfl⟩

theorem cutInv_mac {s : ByteArray} {F : Nat} {B : Bool} {m : Int} {A : ByteArray} (h : 0 < s.size) (hc : (Utf8.decode s 0).1 = 175) (hi : CutInv s 0 F B m A) : CutInv s (0 + (Utf8.decode s 0).2) 2 true m A := by
  have hd := dec_mac s h
  have hm := hd.1.1 hc
  have he := dec_end s 0 h
  have hst : st s.data.toList = 2 := by unfold st; rw [if_pos hm]
  rw [hd.2 hc] at he ⊢
  obtain ⟨_, _, _, ⟨_, _, _, rfl, rfl⟩ | ⟨h0, _⟩⟩ := hi
  · exact ⟨by omega, by omega, by omega, Or.inr ⟨by omega, hm.symm, by omega, Or.inl ⟨rfl, rfl, hst.symm, fun j h1 h2 => by omega⟩⟩⟩
  · omega

theorem st_first {s : ByteArray} (h : 0 < s.size) (hc : ¬ (Utf8.decode s 0).1 = 175) : isMac s.data.toList = false ∧ st s.data.toList = 0 := by
  have hd := dec_mac s h
  have : isMac s.data.toList = false := by
    cases hh : isMac s.data.toList with
    | false => rfl
    | true => exact absurd (hd.1.2 hh) hc
  exact ⟨this, by unfold st; rw [this]; rfl⟩

/-- The state behind the first look, in one form. -/
theorem cutInv_open {s : ByteArray} {pos F : Nat} {B : Bool} {m : Int} {A : ByteArray} (h : pos < s.size) (hc : ¬ (pos = 0 ∧ (Utf8.decode s pos).1 = 175)) (hi : CutInv s pos F B m A) :
    F ≤ pos ∧ B = isMac s.data.toList ∧ st s.data.toList ≤ pos ∧ ((m = 0 ∧ A = ⟨#[]⟩ ∧ F = st s.data.toList ∧ ∀ j, st s.data.toList ≤ j → j < pos → ¬ isM (s.get! j)) ∨
     (∃ k, st s.data.toList ≤ k ∧ k < pos ∧ isM (s.get! k) ∧ m = ((s.get! k).toNat : Int) ∧ A = s.extract (st s.data.toList) k ∧ F = k + 1 ∧ ∀ j, st s.data.toList ≤ j → j < k → ¬ isM (s.get! j))) := by
  obtain ⟨h1, h2, h3, ⟨rfl, rfl, rfl, rfl, rfl⟩ | ⟨h0, hB, hs, hr⟩⟩ := hi
  · have hf := st_first h (fun e => hc ⟨rfl, e⟩)
    exact ⟨Nat.le_refl _, hf.1.symm, by omega, Or.inl ⟨rfl, rfl, hf.2.symm, fun j _ h2 => by omega⟩⟩
  · exact ⟨h3, hB, hs, hr⟩

theorem cutInv_mark {s : ByteArray} {pos F : Nat} {B : Bool} {A : ByteArray} (h : pos < s.size) (hc : (Utf8.decode s pos).1 = 46 ∨ (Utf8.decode s pos).1 = 114) (hi : CutInv s pos F B 0 A) :
    CutInv s (pos + (Utf8.decode s pos).2) (pos + 1) B ((Utf8.decode s pos).1 : Int) (s.extract F pos) := by
  have hl := dec_low s pos h (by omega)
  have he := dec_end s pos h
  have him : isM (s.get! pos) := by unfold isM; have := hl.1; omega
  obtain ⟨h1, hB, h2, hr⟩ := cutInv_open h (by omega) hi
  rw [hl.2] at he ⊢
  refine ⟨he, he, Nat.le_refl _, Or.inr ⟨Nat.succ_pos _, hB, Nat.le_succ_of_le h2, Or.inr ⟨pos, h2, Nat.lt_succ_self _, him, by rw [hl.1], ?_, rfl, ?_⟩⟩⟩
  · rcases hr with ⟨_, _, rfl, _⟩ | ⟨k, _, _, hk, hm, _⟩
    · rfl
    · unfold isM at hk; omega
  · rcases hr with ⟨_, _, _, hn⟩ | ⟨k, _, _, hk, hm, _⟩
    · exact hn
    · unfold isM at hk; omega

theorem cutInv_same {s : ByteArray} {pos F : Nat} {B : Bool} {m : Int} {A : ByteArray} (h : pos < s.size) (hc : ¬ (pos = 0 ∧ (Utf8.decode s pos).1 = 175)) (hm : m = 0 → ¬ ((Utf8.decode s pos).1 = 46 ∨ (Utf8.decode s pos).1 = 114)) (hi : CutInv s pos F B m A) :
    CutInv s (pos + (Utf8.decode s pos).2) F B m A := by
  have he := dec_end s pos h
  have hw := Lib.decode_width_pos s pos h
  obtain ⟨h1, hB, h2, hr⟩ := cutInv_open h hc hi
  refine ⟨he, hi.2.1, by omega, Or.inr ⟨by omega, hB, by omega, ?_⟩⟩
  rcases hr with ⟨rfl, hA, hF, hn⟩ | ⟨k, k1, k2, k3⟩
  · refine Or.inl ⟨rfl, hA, hF, fun j j1 j2 hj => ?_⟩
    rcases Nat.lt_or_ge j pos with h3 | h3
    · exact hn j j1 h3 hj
    · obtain ⟨rfl, hd, _⟩ := isM_dec s pos j h h3 j2 hj
      unfold isM at hj
      exact hm rfl (by omega)
  · exact Or.inr ⟨k, k1, by omega, k3⟩

theorem ext_list (s : ByteArray) (a b : Nat) : (s.extract a b).data.toList = (s.data.toList.drop a).take (b - a) := by
  rw [ByteArray.data_extract, Array.toList_extract]
theorem mem_at {s : ByteArray} {y : UInt8} {a n : Nat} (h : y ∈ (s.data.toList.drop a).take n) : ∃ j, a ≤ j ∧ j < a + n ∧ j < s.size ∧ s.get! j = y := by
  obtain ⟨i, hi, rfl⟩ := List.mem_iff_getElem.1 h
  have hl : i < n ∧ a + i < s.data.toList.length := by simp at hi; simp; omega
  have hs : s.size = s.data.toList.length := by simp
  refine ⟨a + i, by omega, by omega, by omega, ?_⟩
  have h1 := get_data s (a + i) (by omega)
  rw [List.getElem_take, List.getElem_drop]
  rw [List.getElem?_eq_getElem hl.2] at h1
  exact (Option.some.inj h1).symm

/-- At the text's end: without a mark. -/
theorem cutInv_none {s : ByteArray} {pos F : Nat} {B : Bool} {A : ByteArray} (h : ¬ pos < s.size) (hi : CutInv s pos F B 0 A) : Cuts s.data.toList B 0 (s.extract F s.size).data.toList [] := by
  have hs : s.size = s.data.toList.length := by simp
  rw [ext_list]
  obtain ⟨h1, h2, h3, ⟨rfl, rfl, rfl, _, _⟩ | ⟨h0, hB, hst, ⟨_, _, rfl, hn⟩ | ⟨k, _, _, hk, hm, _⟩⟩⟩ := hi
  · have hl : s.data.toList = [] := List.eq_nil_of_length_eq_zero (by omega)
    rw [hl]
    exact ⟨rfl, Or.inl ⟨rfl, by simp, rfl, fun y hy => by simp at hy⟩⟩
  · refine ⟨hB, Or.inl ⟨rfl, List.take_of_length_le (by rw [List.length_drop]; omega), rfl, fun y hy => ?_⟩⟩
    obtain ⟨j, j1, j2, j3, rfl⟩ := mem_at hy
    exact hn j j1 (by omega)
  · unfold isM at hk; omega
/-- At the text's end: with one. -/
theorem cutInv_some {s : ByteArray} {pos F : Nat} {B : Bool} {m : Int} {A : ByteArray} (h : ¬ pos < s.size) (hm0 : ¬ m = 0) (hi : CutInv s pos F B m A) : Cuts s.data.toList B m A.data.toList (s.extract F s.size).data.toList := by
  have hs : s.size = s.data.toList.length := by simp
  obtain ⟨h1, h2, h3, ⟨_, _, _, h4, _⟩ | ⟨h0, hB, hst, ⟨h4, _⟩ | ⟨k, k1, k2, hk, rfl, rfl, rfl, hn⟩⟩⟩ := hi
  · exact absurd h4 hm0
  · exact absurd h4 hm0
  rw [ext_list, ext_list]
  refine ⟨hB, Or.inr ⟨s.get! k, hk, rfl, ?_, fun y hy => ?_⟩⟩
  · have hg := get_data s k (by omega)
    have hkl : k < s.data.toList.length := by omega
    rw [List.getElem?_eq_getElem hkl] at hg
    have hg' := Option.some.inj hg
    rw [List.take_of_length_le (i := s.size - (k + 1)) (by rw [List.length_drop]; omega), ← hg', ← List.drop_eq_getElem_cons hkl]
    have e : s.data.toList.drop k = (s.data.toList.drop (st s.data.toList)).drop (k - st s.data.toList) := by
      rw [List.drop_drop]; congr 1; omega
    rw [e, List.take_append_drop]
  · obtain ⟨j, j1, j2, j3, rfl⟩ := mem_at hy
    exact hn j j1 (by omega)

theorem cuts_unique {l A H A' H' : List UInt8} {B : Bool} {m : Int} {x : UInt8} (h : Cuts l B m A H) (hx : isM x) (e : l.drop (st l) = A' ++ x :: H') (hn : ∀ y ∈ A', ¬ isM y) : m = (x.toNat : Int) ∧ A = A' ∧ H = H' := by
  have key : ∀ (A A' H H' : List UInt8) (x y : UInt8), isM x → isM y → (∀ z ∈ A, ¬ isM z) → (∀ z ∈ A', ¬ isM z) → A ++ x :: H = A' ++ y :: H' → x = y ∧ A = A' ∧ H = H' := by
    intro A
    induction A with
    | nil =>
      intro A' H H' x y hx hy _ h2 e
      cases A' with
      | nil => simp at e; exact ⟨e.1, rfl, e.2⟩
      | cons a A' =>
        simp at e
        exact absurd (e.1 ▸ hx) (h2 a (by simp))
    | cons a A ih =>
      intro A' H H' x y hx hy h1 h2 e
      cases A' with
      | nil =>
        simp at e
        exact absurd (e.1 ▸ hy) (h1 a (by simp))
      | cons b A' =>
        simp at e
        obtain ⟨e1, e2, e3⟩ := ih A' H H' x y hx hy (fun z hz => h1 z (by simp [hz])) (fun z hz => h2 z (by simp [hz])) e.2
        exact ⟨e1, by rw [e.1, e2], e3⟩
  obtain ⟨_, ⟨_, hA, _, hm⟩ | ⟨y, hy, rfl, e', hm⟩⟩ := h
  · rw [e] at hA
    exact absurd hx (hm x (by rw [hA]; simp))
  · obtain ⟨rfl, rfl, rfl⟩ := key _ _ _ _ _ _ hy hx hm hn (e'.symm.trans e)
    exact ⟨rfl, rfl, rfl⟩
end Go.Proofs.YtadkbcehhdcfaaaDoor

/- rat.tooLong: has a text more than 700 characters? -/
namespace Go.Proofs.YtadkbcehhdcfaaaDoor
set_option linter.unusedVariables false
set_option linter.unusedSimpArgs false
open Go.RowKit

end Go.Proofs.YtadkbcehhdcfaaaDoor

/- rat.cut: a number's text in its parts. -/
namespace Go.Proofs.YtadkbcehhdcfaaaDoor
set_option linter.unusedVariables false
set_option linter.unusedSimpArgs false
open Go.RowKit

/-- A variable of four cells. -/
def Box4 (w : World) (B ty : Nat) (x y z u : Value) : Prop := w.heap[B]? = some (.cells #[x, y, z, u] ty (0, 0))
section
variable {w : World} {B ty : Nat} {x y z u : Value}
theorem box4_new (w : World) (x y z u : Value) (t : Nat) : Box4 (w.alloc (.cells #[x, y, z, u] t)) w.heap.size t x y z u := heap_alloc_new _ _
theorem Box4.below {w' : World} {base : Nat} (h : Box4 w B ty x y z u) (hb : Below base w w') (hB : B < base) : Box4 w' B ty x y z u := by
  unfold Box4; rw [hb.block B hB]; exact h
theorem Box4.c0 (h : Box4 w B ty x y z u) : w.cell? ⟨B, 0, none⟩ = some x := by unfold Box4 at h; simp [World.cell?, h]
theorem Box4.c1 (h : Box4 w B ty x y z u) : w.cell? ⟨B, 1, none⟩ = some y := by unfold Box4 at h; simp [World.cell?, h]
theorem Box4.c2 (h : Box4 w B ty x y z u) : w.cell? ⟨B, 2, none⟩ = some z := by unfold Box4 at h; simp [World.cell?, h]
theorem Box4.c3 (h : Box4 w B ty x y z u) : w.cell? ⟨B, 3, none⟩ = some u := by unfold Box4 at h; simp [World.cell?, h]
theorem Box4.f0 (h : Box4 w B ty x y z u) : w.frozen? ⟨B, 0, none⟩ = false := by unfold Box4 at h; simp [World.frozen?, h]
theorem Box4.f1 (h : Box4 w B ty x y z u) : w.frozen? ⟨B, 1, none⟩ = false := by unfold Box4 at h; simp [World.frozen?, h]
theorem Box4.f2 (h : Box4 w B ty x y z u) : w.frozen? ⟨B, 2, none⟩ = false := by unfold Box4 at h; simp [World.frozen?, h]
theorem Box4.f3 (h : Box4 w B ty x y z u) : w.frozen? ⟨B, 3, none⟩ = false := by unfold Box4 at h; simp [World.frozen?, h]
theorem Box4.set0 (h : Box4 w B ty x y z u) (v : Value) : Box4 (w.setCell ⟨B, 0, none⟩ v) B ty v y z u := by
  unfold Box4 at h ⊢; simp [World.setCell, Array.getElem?_modify, h]
theorem Box4.set1 (h : Box4 w B ty x y z u) (v : Value) : Box4 (w.setCell ⟨B, 1, none⟩ v) B ty x v z u := by
  unfold Box4 at h ⊢; simp [World.setCell, Array.getElem?_modify, h]
theorem Box4.set2 (h : Box4 w B ty x y z u) (v : Value) : Box4 (w.setCell ⟨B, 2, none⟩ v) B ty x y v u := by
  unfold Box4 at h ⊢; simp [World.setCell, Array.getElem?_modify, h]
theorem Box4.set3 (h : Box4 w B ty x y z u) (v : Value) : Box4 (w.setCell ⟨B, 3, none⟩ v) B ty x y z v := by
  unfold Box4 at h ⊢; simp [World.setCell, Array.getElem?_modify, h]
theorem Box4.other (h : Box4 w B ty x y z u) {p : Addr} (hp : p.block ≠ B) (v : Value) : Box4 (w.setCell p v) B ty x y z u := by
  unfold Box4 at h ⊢
  have : ¬ p.block = B := hp
  simp [World.setCell, Array.getElem?_modify, h, this]
theorem Box4.iterAt (h : Box4 w B ty x y z u) {k : Nat} (hk : B ≠ k) (s : ByteArray) (pos : Nat) : Box4 (w.iterAt k s pos) B ty x y z u := by
  unfold Box4; rw [Lib.iterAt_other w k B s pos hk]; exact h
theorem iter_set {w : World} {k : Nat} {s : ByteArray} {pos : Nat} (h : w.heap[k]? = some (.stringIter s pos)) {p : Addr} (hp : p.block ≠ k) (v : Value) : (w.setCell p v).heap[k]? = some (.stringIter s pos) := by
  have : ¬ p.block = k := hp
  simp [World.setCell, Array.getElem?_modify, h, this]
end

end Go.Proofs.YtadkbcehhdcfaaaDoor

/- (*running).timesLimb: the number becomes f times as great, and more is added. -/
namespace Go.Proofs.YtadkbcehhdcfaaaDoor
set_option linter.unusedVariables false
set_option linter.unusedSimpArgs false
open Go.RowKit

theorem take_set_succ (vs : List Int) (i : Nat) (z : Int) (h : i < vs.length) : (vs.set i z).take (i + 1) = vs.take i ++ [z] := by
  rw [take_succ_getD _ _ (by simpa using h), getD_set, if_pos ⟨rfl, h⟩]
  congr 1
  rw [List.take_set_of_le (Nat.le_refl _)]
theorem drop_set_succ (vs : List Int) (i : Nat) (z : Int) : (vs.set i z).drop (i + 1) = vs.drop (i + 1) := by
  rw [List.drop_set_of_lt (by omega)]

theorem tl_step (vs xs : List Int) (i : Nat) (C f m t : Int) (hi : i < xs.length) (hl : vs.length = xs.length) (h : val (vs.take i) + C * pw i = val (xs.take i) * f + m) (ht : t = xs.getD i 0 * f + C) :
    val ((vs.set i (t % 4294967296)).take (i + 1)) + t / 4294967296 * pw (i + 1) = val (xs.take (i + 1)) * f + m := by
  rw [take_set_succ vs i _ (by omega), val_append, val_take_succ xs i hi, pw_succ]
  simp only [val, List.length_take]
  rw [Nat.min_eq_left (by omega)]
  have e : t = t % 4294967296 + t / 4294967296 * 4294967296 := by omega
  generalize t % 4294967296 = z at *
  generalize t / 4294967296 = q at *
  have key : (z + q * 4294967296) * pw i = (xs.getD i 0 * f + C) * pw i := by rw [← e, ht]
  simp only [Int.mul_zero, Int.add_zero] at *
  simp only [Int.add_mul, Int.mul_add, Int.mul_assoc, Int.mul_comm, Int.mul_left_comm] at *
  omega

end Go.Proofs.YtadkbcehhdcfaaaDoor

/- nat.Parse: the number that digits say. -/
namespace Go.Proofs.YtadkbcehhdcfaaaDoor
set_option linter.unusedVariables false
set_option linter.unusedSimpArgs false
open Go.RowKit

theorem dval_lt {l : List UInt8} (h : digs l) : dval l < 10 ^ l.length := by
  induction l with
  | nil => decide
  | cons b l ih =>
    have hb := h b (by simp)
    have h2 := ih (fun c hc => h c (by simp [hc]))
    have e : dval (b :: l) = (b.toNat - 48) * 10 ^ l.length + dval l := by
      show (b :: l).foldl _ 0 = _
      rw [List.foldl_cons, dval_from]; simp
    rw [e, List.length_cons, Nat.pow_succ]
    have h3 : (b.toNat - 48) * 10 ^ l.length ≤ 9 * 10 ^ l.length := Nat.mul_le_mul_right _ (by omega)
    omega

theorem own_nil' (base : Nat) (w : World) : Own base w (.slice none 0 0) [] := ⟨lim_nil, World.ownsRow_nil _ _ _ _⟩

theorem byte_at {s : ByteArray} {l : List UInt8} (h : s.data.toList = l) (i : Nat) (hi : i < l.length) : s[i]'(by rw [show s.size = l.length by rw [← h]; rfl]; exact hi) = l[i] := by
  subst h
  rfl

def isNum (l : List UInt8) : Prop := digs l ∧ 0 < l.length
def Tells (l : List UInt8) (e : Ending) : Prop := ∃ b, e = .returned (.bool b) ∧ (b = true ↔ isNum l)

/-- What the reading of a text answers. -/
def Parses (w : World) (l : List UInt8) (e : Ending) (w' : World) : Prop :=
  Below w.heap.size w w' ∧ (isNum l → ∃ zs a c, can zs ∧ val zs = dval l ∧ e = .returned (.tuple #[.slice a zs.length c, .bool true]) ∧ Own w.heap.size w' (.slice a zs.length c) zs) ∧ (¬ isNum l → e = .returned (.tuple #[.slice none 0 0, .bool false]))

theorem extract_list (s : ByteArray) (a b : Nat) : (s.extract a b).data.toList = (s.data.toList.drop a).take (b - a) := by
  rw [ByteArray.data_extract, Array.toList_extract]

def sizeOf' : Value → Nat | .string s => s.size | _ => 0

end Go.Proofs.YtadkbcehhdcfaaaDoor

/- nat.tooGreat and nat.Power: a power, or that it has more limbs than may be. -/
namespace Go.Proofs.YtadkbcehhdcfaaaDoor
set_option linter.unusedVariables false
set_option linter.unusedSimpArgs false
open Go.RowKit

theorem p2_pow (b k : Nat) : p2 b ^ k = p2 (b * k) := by unfold p2; rw [Int.pow_mul]

theorem pow_le_pow {x y : Int} (h0 : 0 ≤ x) (h : x ≤ y) (k : Nat) : x ^ k ≤ y ^ k ∧ 0 ≤ x ^ k := by
  induction k with
  | zero => simp
  | succ k ih =>
    rw [Int.pow_succ, Int.pow_succ]
    exact ⟨Int.mul_le_mul ih.1 h h0 (by omega), Int.mul_nonneg ih.2 h0⟩

theorem one_pow' (k : Nat) : (1 : Int) ^ k = 1 := Int.one_pow
theorem zero_pow' (k : Nat) : (0 : Int) ^ k = 0 ∨ (0 : Int) ^ k = 1 := by
  cases k with
  | zero => exact Or.inr rfl
  | succ k => left; rw [Int.pow_succ]; simp

/-- What a power is below, where it is not too great ahead. -/
theorem pow_bound (x : Int) (b n M : Nat) (hb : isBits x b) (h : ¬ (2 ≤ b ∧ 32 * M ≤ (b - 1) * n)) (k : Nat) (hk : k ≤ n) : 0 ≤ x ^ k ∧ x ^ k < pw (2 * M + 1) := by
  have p1 : 1 < pw (2 * M + 1) := by rw [pw_succ]; have := pw_pos (2 * M); omega
  rcases hb with ⟨rfl, rfl⟩ | ⟨b1, b2, b3⟩
  · rcases zero_pow' k with h | h <;> rw [h] <;> omega
  · by_cases hb2 : b = 1
    · subst hb2
      have e1 : p2 0 = 1 := rfl
      have e2 : p2 1 = 2 := rfl
      have : x = 1 := by simp only [Nat.sub_self] at b2; omega
      rw [this, one_pow']; omega
    · have hlt : (b - 1) * n < 32 * M := Nat.lt_of_not_le (fun e => h ⟨by omega, e⟩)
      have hx0 : 0 ≤ x := by have := p2_pos (b - 1); omega
      have h1 := pow_le_pow hx0 (Int.le_of_lt b3) k
      rw [p2_pow] at h1
      have h2 : b * k ≤ 2 * ((b - 1) * n) := by
        have h3 : b * k ≤ (2 * (b - 1)) * k := Nat.mul_le_mul_right _ (by omega)
        have h4 : (2 * (b - 1)) * k ≤ (2 * (b - 1)) * n := Nat.mul_le_mul_left _ hk
        have h5 : (2 * (b - 1)) * n = 2 * ((b - 1) * n) := Nat.mul_assoc _ _ _
        omega
      have h5 := p2_mono (j := b * k) (k := 32 * (2 * M)) (by omega)
      rw [← pw_p2] at h5
      have h6 := pw_pos (2 * M)
      rw [pw_succ]; omega

/-- A power that is too great ahead. -/
theorem pow_great (x : Int) (b n M : Nat) (hb : isBits x b) (h : 2 ≤ b ∧ 32 * M ≤ (b - 1) * n) : pw M ≤ x ^ n := by
  rcases hb with ⟨_, h0⟩ | ⟨b1, b2, b3⟩
  · omega
  · have h1 := pow_le_pow (Int.le_of_lt (p2_pos (b - 1))) b2 n
    rw [p2_pow] at h1
    have h2 := p2_mono (j := 32 * M) (k := (b - 1) * n) h.2
    rw [pw_p2]; omega

theorem can_len_pw {zs : List Int} (h : can zs) (M : Nat) : (zs.length ≤ M ↔ val zs < pw M) := by
  constructor
  · intro hl
    have h1 := (val_bound h.1).2
    have h2 := pw_mono hl
    omega
  · intro hv
    by_cases hl : zs.length ≤ M
    · exact hl
    · have h1 := can_low h (by omega)
      have h2 := pw_mono (j := M) (k := zs.length - 1) (by omega)
      omega

/-- n without its last j bits. -/
def shr' (n j : Nat) : Nat := n / 2 ^ j
theorem shr'_zero (n : Nat) : shr' n 0 = n := by unfold shr'; simp
theorem shr'_step (n j : Nat) : shr' n j = 2 * shr' n (j + 1) + shr' n j % 2 := by
  unfold shr'
  rw [Nat.pow_succ, ← Nat.div_div_eq_div_mul]
  omega
theorem shr'_le (n j : Nat) : shr' n j ≤ n := by unfold shr'; exact Nat.div_le_self _ _

theorem pow_double (x : Int) (k m : Nat) (h : m = 2 * k) : x ^ k * x ^ k = x ^ m := by
  subst h; rw [← Int.pow_add]; congr 1; omega
theorem pow_more (x : Int) (k m : Nat) (h : m = k + 1) : x ^ k * x = x ^ m := by subst h; rw [Int.pow_succ]

theorem bitLen_63 (n : Nat) (h : n < 9223372036854775808) : Lib.bitLen n ≤ 63 ∧ shr' n (Lib.bitLen n) = 0 := by
  by_cases h0 : n = 0
  · subst h0; exact ⟨by decide, by unfold shr'; simp⟩
  · obtain ⟨h1, h2, h3⟩ := Lib.bitLenAux_bounds 64 n (Nat.lt_of_lt_of_le h (by decide)) h0
    have e : Lib.bitLenAux 64 n = Lib.bitLen n := rfl
    rw [e] at h1 h2 h3
    refine ⟨?_, Nat.div_eq_of_lt h3⟩
    by_cases hl : Lib.bitLen n ≤ 63
    · exact hl
    · have h4 : 2 ^ 63 ≤ 2 ^ (Lib.bitLen n - 1) := Nat.pow_le_pow_right (by omega) (by omega)
      have h5 : (2 : Nat) ^ 63 = 9223372036854775808 := by decide
      omega

theorem and_one_i64 (x : Int) (h0 : 0 ≤ x) (h1 : x < 9223372036854775808) : bits .and .i64 x 1 = x % 2 :=
  bits_mask .i64 63 (by decide) (fun n a b => by rw [IntKind.wrap_i64]; omega) 1 (by decide) x h0 (by omega)

theorem bit_at (n j : Nat) (h : n < 9223372036854775808) : bits .and .i64 ((n : Int) / 2 ^ j) 1 = ((shr' n j % 2 : Nat) : Int) := by
  have e : (n : Int) / 2 ^ j = ((shr' n j : Nat) : Int) := by unfold shr'; simp
  have := shr'_le n j
  rw [e, and_one_i64 _ (by omega) (by omega)]
  omega

end Go.Proofs.YtadkbcehhdcfaaaDoor

/- rat.Parse: a text's number. -/
namespace Go.Proofs.YtadkbcehhdcfaaaDoor
set_option linter.unusedVariables false
set_option linter.unusedSimpArgs false
open Go.RowKit

/-- An answer with an error: no number. -/
def errOf (n : Int) : Ending := .returned (.tuple #[.agg #[.bool false, .slice none 0 0, .slice none 0 0], .int .i64 n])

theorem ten_pw (n : Nat) : (((10 ^ n : Nat)) : Int) ≤ pw n := by
  induction n with
  | zero => decide
  | succ n ih =>
    rw [pw_succ, Nat.pow_succ, Int.natCast_mul]
    have h1 : (0 : Int) ≤ ((10 ^ n : Nat) : Int) := Int.natCast_nonneg _
    have := pw_pos n
    generalize ((10 ^ n : Nat) : Int) = T at *
    omega
theorem ten_lt (n : Nat) (h : 0 < n) : (((10 ^ n : Nat)) : Int) < pw n := by
  obtain ⟨k, rfl⟩ : ∃ k, n = k + 1 := ⟨n - 1, by omega⟩
  rw [pw_succ, Nat.pow_succ, Int.natCast_mul]
  have h1 := ten_pw k
  have := pw_pos k
  generalize ((10 ^ k : Nat) : Int) = T at *
  omega

theorem val_ten (n : Nat) : val [(10 : Int)] ^ n = ((10 ^ n : Nat) : Int) := by
  have h10 : val [(10 : Int)] = 10 := by decide
  rw [h10, Int.natCast_pow]
  rfl

/-- What nat.Parse answers, in one form. -/
theorem Parses.form {w w' : World} {l : List UInt8} {e : Ending} (h : Parses w l e w') : Below w.heap.size w w' ∧ ∃ (xs : List Int) (a : Option Addr) (c : Nat) (ok : Bool), e = .returned (.tuple #[.slice a xs.length c, .bool ok]) ∧ Own w.heap.size w' (.slice a xs.length c) xs ∧ xs.length ≤ l.length ∧ Hid ((ok = true ↔ isNum l) ∧ (ok = true → can xs ∧ val xs = (dval l : Int))) := by
  refine ⟨h.1, ?_⟩
  by_cases hn : isNum l
  · obtain ⟨zs, a, c, cz, vz, he, ho⟩ := h.2.1 hn
    refine ⟨zs, a, c, true, he, ho, ?_, ⟨fun _ => hn, fun _ => rfl⟩, fun _ => ⟨cz, vz⟩⟩
    rw [can_len_pw cz, vz]
    have h1 := dval_lt hn.1
    have h2 := ten_lt l.length hn.2
    omega
  · exact ⟨[], none, 0, false, h.2.2 hn, own_nil' _ _, Nat.zero_le _, ⟨(fun e => by cases e), fun e => absurd e hn⟩, fun e => by cases e⟩

theorem runeCount_size (s : ByteArray) : ∀ fuel pos, s.size ≤ pos + fuel → s.size ≤ pos + 4 * Lib.runeCountFrom s fuel pos
  | 0, pos, h => by omega
  | f + 1, pos, h => by
    unfold Lib.runeCountFrom
    by_cases hp : pos < s.size
    · rw [if_pos hp]
      have hw : (Utf8.decode s pos).2 ≤ 4 := by
        simp only [Utf8.decode]
        repeat' split
        all_goals simp
      have h1 := Lib.decode_width_pos s pos hp
      have ih := runeCount_size s f (pos + (Utf8.decode s pos).2) (by omega)
      omega
    · omega

/-- What a text's parts make. -/
def PartsMake (w : World) (B : Bool) (m : Int) (A H : List UInt8) (e : Ending) (w' : World) : Prop :=
  ((¬ isNum A ∨ (¬ m = 0 ∧ ¬ isNum H)) ∧ e = errOf 22) ∨ (isNum A ∧ m = 0 ∧ RMakes w (sg B (dval A)) 1 e w') ∨ (isNum A ∧ isNum H ∧ m = 114 ∧ dval H = 0 ∧ e = errOf 22) ∨
  (isNum A ∧ isNum H ∧ m = 114 ∧ 0 < dval H ∧ RMakes w (sg B (dval A)) (dval H) e w') ∨ (isNum A ∧ isNum H ∧ m = 46 ∧ RMakes w (sg B ((dval A * 10 ^ H.length + dval H : Nat) : Int)) ((10 ^ H.length : Nat) : Int) e w')
/-- What rat.Parse answers. -/
def RParses (w : World) (s : ByteArray) (e : Ending) (w' : World) : Prop :=
  Below w.heap.size w w' ∧ ((700 < Lib.runeCount s ∧ e = errOf 8) ∨ (¬ 700 < Lib.runeCount s ∧ ∃ B m A H, Cuts s.data.toList B m A H ∧ PartsMake w B m A H e w'))

theorem Cuts.mark {l A H : List UInt8} {B : Bool} {m : Int} (h : Cuts l B m A H) : m = 0 ∨ m = 46 ∨ m = 114 := by
  obtain ⟨_, ⟨h, _⟩ | ⟨x, hx, h, _⟩⟩ := h
  · exact Or.inl h
  · unfold isM at hx; omega
theorem RMakes.below_of {w w' : World} {N D : Int} {e : Ending} (h : RMakes w N D e w') : Below w.heap.size w w' := h.1

end Go.Proofs.YtadkbcehhdcfaaaDoor

/- The statements' own helper live: rat.Parse at two texts, rat.Mul, rat.Print. -/
namespace Go.Proofs.YtadkbcehhdcfaaaDoor
set_option linter.unusedVariables false
set_option linter.unusedSimpArgs false
open Go.RowKit

/-- What is in lowest terms, of a known small value. -/
theorem small_ratio {b c : Bool} {ns ds : List Int} {N D : Int} {p q : Nat} (cn : can ns) (cd : can ds) (hd : 0 < ds.length) (hg : gI (val ns) (val ds) = 1) (e : sg b (val ns) * D = N * val ds) (hD : 0 < D) (hN : N * q = sg c p * D) (hp : 0 < p) (hq : 0 < q) (p9 : p < 4294967296) (q9 : q < 4294967296) (hpq : Nat.gcd p q = 1) :
    b = c ∧ ns = [(p : Int)] ∧ ds = [(q : Int)] := by
  have dp : 0 < val ds := by have := can_low cd hd; have := pw_pos (ds.length - 1); omega
  have np := (val_bound cn.1).1
  have h1 : sg b (val ns) * q = sg c p * val ds := by
    refine cancel hD ?_
    have e1 : sg b (val ns) * q * D = sg b (val ns) * D * q := by ac_rfl
    have e2 : N * val ds * q = N * q * val ds := by ac_rfl
    have e3 : sg c p * D * val ds = sg c p * val ds * D := by ac_rfl
    rw [e1, e, e2, hN, e3]
  have pp : 0 < (p : Int) * val ds := Int.mul_pos (by omega) dp
  have nq : 0 ≤ val ns * (q : Int) := Int.mul_nonneg np (by omega)
  rw [← sg_mul, ← sg_mul] at h1
  have h2 : val ns * (q : Int) = (p : Int) * val ds ∧ b = c := by
    unfold sg at h1
    generalize val ns * (q : Int) = x at *
    generalize (p : Int) * val ds = y at *
    cases b <;> cases c <;> simp at h1 <;> first | exact ⟨by omega, rfl⟩ | (exfalso; omega)
  obtain ⟨n, en⟩ := Int.eq_ofNat_of_zero_le np
  obtain ⟨d, ed⟩ := Int.eq_ofNat_of_zero_le (Int.le_of_lt dp)
  have g1 : Nat.gcd n d = 1 := by
    rw [en, ed] at hg
    unfold gI at hg
    simp only [Int.toNat_natCast] at hg
    omega
  have hm := h2.1
  rw [en, ed] at hm
  have hmn : n * q = p * d := by exact_mod_cast hm
  have d1 : d ∣ q := Nat.Coprime.dvd_of_dvd_mul_left (show Nat.Coprime d n by rw [Nat.coprime_comm]; exact g1) ⟨p, by rw [hmn, Nat.mul_comm]⟩
  have d2 : q ∣ d := Nat.Coprime.dvd_of_dvd_mul_left (show Nat.Coprime q p by rw [Nat.coprime_comm]; exact hpq) ⟨n, by rw [← hmn, Nat.mul_comm]⟩
  obtain rfl : d = q := Nat.dvd_antisymm d1 d2
  obtain rfl : n = p := Nat.eq_of_mul_eq_mul_right hq hmn
  exact ⟨h2.2, limbs_of cn n (by omega) (by omega) en, limbs_of cd d (by omega) (by omega) ed⟩

/-- A known small number is answered. -/
def SmallNum (w : World) (c : Bool) (p q : Nat) (e : Ending) (w' : World) : Prop :=
  Below w.heap.size w w' ∧ ∃ ns ds a1 c1 a2 c2, Hid (ns = [(p : Int)] ∧ ds = [(q : Int)]) ∧ e = .returned (.tuple #[.agg #[.bool c, .slice a1 ns.length c1, .slice a2 ds.length c2], .int .i64 0]) ∧ Own w.heap.size w' (.slice a1 ns.length c1) ns ∧ Own w.heap.size w' (.slice a2 ds.length c2) ds
/-- A number that was made, of a known small value. -/
theorem RMakes.small {w w' : World} {N D : Int} {e : Ending} {c : Bool} {p q : Nat} (h : RMakes w N D e w') (hD : 0 < D) (hN : N * q = sg c p * D) (hp : 0 < p) (hq : 0 < q) (p9 : p < 4294967296) (q9 : q < 4294967296) (hpq : Nat.gcd p q = 1) :
    SmallNum w c p q e w' := by
  refine ⟨h.1, ?_⟩
  rcases h.2 with ⟨_, b, ns, ds, cn, cd, hd, hg, he, hl⟩ | ⟨b, ns, ds, a1, c1, a2, c2, rfl, on, od, hr, he⟩
  · exfalso
    obtain ⟨_, rfl, rfl⟩ := small_ratio cn cd hd hg he hD hN hp hq p9 q9 hpq
    simp at hl
  · obtain ⟨rfl, rfl, rfl⟩ := small_ratio hr.2.2.1 hr.2.2.2.1 hr.2.2.2.2.2.1 hr.2.2.2.2.2.2 he hD hN hp hq p9 q9 hpq
    exact ⟨_, _, a1, c1, a2, c2, ⟨rfl, rfl⟩, rfl, on, od⟩
theorem Gives.small {w w' : World} {P : Prop} {N D : Int} {e : Ending} {c : Bool} {p q : Nat} (h : Gives w P N D e w') (hP : P) (hD : 0 < D) (hN : N * q = sg c p * D) (hp : 0 < p) (hq : 0 < q) (p9 : p < 4294967296) (q9 : q < 4294967296) (hpq : Nat.gcd p q = 1) :
    SmallNum w c p q e w' := by
  obtain ⟨hb, b, x1, n, y1, x2, m, y2, err, rfl, ho⟩ := h
  refine ⟨hb, ?_⟩
  rcases ho.out with ⟨hn, _⟩ | ⟨_, _, _, _, _, _, _, _, _, b', ns, ds, cn, cd, hd, hg, he, hl⟩ | ⟨_, rfl, ns, ds, rfl, rfl, on, od, hr, he⟩
  · exact absurd hP hn
  · exfalso
    obtain ⟨_, rfl, rfl⟩ := small_ratio cn cd hd hg he hD hN hp hq p9 q9 hpq
    simp at hl
  · obtain ⟨rfl, rfl, rfl⟩ := small_ratio hr.2.2.1 hr.2.2.2.1 hr.2.2.2.2.2.1 hr.2.2.2.2.2.2 he hD hN hp hq p9 q9 hpq
    exact ⟨_, _, x1, y1, x2, y2, ⟨rfl, rfl⟩, rfl, on, od⟩

theorem digs_one (b : UInt8) (h : 48 ≤ b.toNat ∧ b.toNat ≤ 57) : isNum [b] := ⟨fun x hx => by simp at hx; subst hx; exact h, by simp⟩

theorem right_small (b : Bool) (p q : Nat) (hp : 0 < p) (hq : 0 < q) (p9 : p < 4294967296) (q9 : q < 4294967296) (hpq : Nat.gcd p q = 1) : RightP b [(p : Int)] [(q : Int)] := by
  have c1 : ∀ n : Nat, 0 < n → n < 4294967296 → can [(n : Int)] := fun n h0 h1 => ⟨fun x hx => by simp at hx; omega, Or.inr (by simp; omega)⟩
  refine ⟨by simp, by simp, c1 p hp p9, c1 q hq q9, by simp, by simp, ?_⟩
  have v1 : ∀ n : Nat, val [(n : Int)] = (n : Int) := fun n => by simp [val]
  rw [v1, v1]
  unfold gI
  simp [hpq]

theorem text_56 : ratText true [((5 : Nat) : Int)] [((6 : Nat) : Int)] = ⟨#[194, 175, 53, 114, 54]⟩ := by
  unfold ratText digB
  have e5 : (val [((5 : Nat) : Int)]).toNat = 5 := by decide
  have e6 : (val [((6 : Nat) : Int)]).toNat = 6 := by decide
  rw [e5, e6, Lib.decDigits_one (by omega), Lib.decDigits_one (by omega)]
  rfl

end Go.Proofs.YtadkbcehhdcfaaaDoor
