/- Plain facts on texts: where a mark stands, what a macron is, byte by byte and character by character. -/
import Derived.Lib.RuneCount
import Derived.Laws.RangeAny
import Derived.Test.YtimfnalpmmkndaaGreatDoorJ3
import Derived.Lib.OthersKept
import Derived.Test.YtimfnalpmmkndaaGreatDoorJ1
import Derived.Test.YtimfnalpmmkndaaGreatDoorJ4
import Derived.Test.YtimfnalpmmkndaaGreatDoorJ2
namespace Go.Proofs.YtimfnalpmmkndaaGreatDoor
set_option linter.unusedVariables false
set_option linter.unusedSimpArgs false

theorem get_is (s : ByteArray) (p : Nat) (h : p < s.size) : s.get! p = s[p]'h := by
 simp [ByteArray.get!, getElem!_pos, h]
 rfl
theorem get_data (s : ByteArray) (p : Nat) (h : p < s.size) : s.data.toList[p]? = some (s.get! p) := by
 rw [get_is s p h]
 have h' : p < s.data.toList.length := by simpa using h
 rw [List.getElem?_eq_getElem h']
 rfl

theorem dec_cont (s : ByteArray) (pos j : Nat) (h1 : pos < j) (h2 : j < pos + (Utf8.decode s pos).2) : j < s.size ∧ 128 ≤ (s.get! j).toNat := by
 simp only [Utf8.decode] at h2
 split at h2
 · simp at h2; omega
 split at h2
 · rename_i h3
   simp only [Bool.and_eq_true, decide_eq_true_eq, beq_iff_eq] at h3
   split at h2
   · simp at h2
     obtain rfl : j = pos + 1 := by omega
     exact ⟨h3.2.1, by omega⟩
   · simp at h2; omega
 split at h2
 · rename_i h3
   simp only [Bool.and_eq_true, decide_eq_true_eq, beq_iff_eq] at h3
   split at h2
   · simp at h2
     have : j = pos + 1 ∨ j = pos + 2 := by omega
     rcases this with rfl | rfl
     · exact ⟨h3.1.2.1, by omega⟩
     · exact ⟨h3.2.1, by omega⟩
   · simp at h2; omega
 split at h2
 · rename_i h3
   simp only [Bool.and_eq_true, decide_eq_true_eq, beq_iff_eq] at h3
   split at h2
   · simp at h2
     have : j = pos + 1 ∨ j = pos + 2 ∨ j = pos + 3 := by omega
     rcases this with rfl | rfl | rfl
     · exact ⟨h3.1.1.2.1, by omega⟩
     · exact ⟨h3.1.2.1, by omega⟩
     · exact ⟨h3.2.1, by omega⟩
   · simp at h2; omega
 · simp at h2; omega

theorem dec_low (s : ByteArray) (pos : Nat) (h : pos < s.size) (hd : (Utf8.decode s pos).1 < 128) : (s.get! pos).toNat = (Utf8.decode s pos).1 ∧ (Utf8.decode s pos).2 = 1 := by
 by_cases ha : (s[pos]'h).toNat < 128
 · rw [decode_ascii s pos h ha, get_is s pos h]
   exact ⟨rfl, rfl⟩
 · have := (decode_high s pos h (by omega)).1
   omega
theorem dec_ascii (s : ByteArray) (pos : Nat) (h : pos < s.size) (ha : (s.get! pos).toNat < 128) : Utf8.decode s pos = ((s.get! pos).toNat, 1) := by
 rw [get_is s pos h] at ha ⊢
 exact decode_ascii s pos h ha

def isMac (l : List UInt8) : Bool := match l with | a :: b :: _ => a.toNat == 194 && b.toNat == 175 | _ => false
theorem isMac_get (s : ByteArray) : isMac s.data.toList = true ↔ 1 < s.size ∧ (s.get! 0).toNat = 194 ∧ (s.get! 1).toNat = 175 := by
 have hs : s.size = s.data.toList.length := by simp
 constructor
 · intro h
   cases hl : s.data.toList with
   | nil => rw [hl] at h; cases h
   | cons a l =>
    cases l with
    | nil => rw [hl] at h; cases h
    | cons b l =>
     rw [hl] at h hs
     have hs1 : 1 < s.size := by rw [hs]; simp
     have g0 := get_data s 0 (by omega)
     have g1 := get_data s 1 hs1
     rw [hl] at g0 g1
     simp at g0 g1
     simp [isMac] at h
     rw [← g0, ← g1]
     exact ⟨hs1, h⟩
 · rintro ⟨h1, h2, h3⟩
   have g0 := get_data s 0 (by omega)
   have g1 := get_data s 1 h1
   cases hl : s.data.toList with
   | nil => rw [hl] at hs; simp only [List.length_nil] at hs; omega
   | cons a l =>
    cases l with
    | nil => rw [hl] at hs; simp only [List.length_cons, List.length_nil] at hs; omega
    | cons b l =>
     rw [hl] at g0 g1
     simp at g0 g1
     simp [isMac]
     rw [g0, g1]
     exact ⟨h2, h3⟩
set_option maxRecDepth 10000 in
theorem dec_mac (s : ByteArray) (h : 0 < s.size) : ((Utf8.decode s 0).1 = 175 ↔ isMac s.data.toList = true) ∧ ((Utf8.decode s 0).1 = 175 → (Utf8.decode s 0).2 = 2) := by
 rw [isMac_get]
 have e0 : (0 : Nat) + 0 = 0 := rfl
 have e1 : (0 : Nat) + 1 = 1 := rfl
 simp only [Utf8.decode, e0, e1]
 have b0 := (s.get! 0).toNat_lt
 have b1 := (s.get! 1).toNat_lt
 have b2 := (s.get! (0 + 2)).toNat_lt
 have b3 := (s.get! (0 + 3)).toNat_lt
 split
 · simp; omega
 split
 · rename_i h3
   simp only [Bool.and_eq_true, decide_eq_true_eq, beq_iff_eq] at h3
   split
   · simp; omega
   · simp [Utf8.runeError]; omega
 rename_i hn
 have hn' : ¬ (1 < s.size ∧ (s.get! 0).toNat = 194 ∧ (s.get! 1).toNat = 175) := by
  rintro ⟨q1, q2, q3⟩
  simp [q1, q2, q3] at hn
 split
 · split
   · rename_i h4
     simp at h4
     refine ⟨⟨fun h => ?_, fun h => absurd h hn'⟩, fun h => ?_⟩ <;> (simp at h; omega)
   · refine ⟨⟨fun h => ?_, fun h => absurd h hn'⟩, fun h => ?_⟩ <;> (simp [Utf8.runeError] at h)
 split
 · split
   · rename_i h4
     simp at h4
     refine ⟨⟨fun h => ?_, fun h => absurd h hn'⟩, fun h => ?_⟩ <;> (simp at h; omega)
   · refine ⟨⟨fun h => ?_, fun h => absurd h hn'⟩, fun h => ?_⟩ <;> (simp [Utf8.runeError] at h)
 · refine ⟨⟨fun h => ?_, fun h => absurd h hn'⟩, fun h => ?_⟩ <;> (simp [Utf8.runeError] at h)
end Go.Proofs.YtimfnalpmmkndaaGreatDoor

/- Where a number's text is cut: plain facts. -/
namespace Go.Proofs.YtimfnalpmmkndaaGreatDoor
set_option linter.unusedVariables false
set_option linter.unusedSimpArgs false

def isM (b : UInt8) : Prop := b.toNat = 46 ∨ b.toNat = 114
def st (l : List UInt8) : Nat := if isMac l = true then 2 else 0
def Cuts (l : List UInt8) (B : Bool) (m : Int) (A H : List UInt8) : Prop :=
 B = isMac l ∧ ((m = 0 ∧ A = l.drop (st l) ∧ H = [] ∧ ∀ y ∈ A, ¬ isM y) ∨ ∃ x, isM x ∧ m = (x.toNat : Int) ∧ l.drop (st l) = A ++ x :: H ∧ ∀ y ∈ A, ¬ isM y)

def CutInv (s : ByteArray) (pos F : Nat) (B : Bool) (m : Int) (A : ByteArray) : Prop :=
 pos ≤ s.size ∧ F ≤ s.size ∧ F ≤ pos ∧ ((pos = 0 ∧ F = 0 ∧ B = false ∧ m = 0 ∧ A = ⟨#[]⟩) ∨ (0 < pos ∧ B = isMac s.data.toList ∧ st s.data.toList ≤ pos ∧
  ((m = 0 ∧ A = ⟨#[]⟩ ∧ F = st s.data.toList ∧ ∀ j, st s.data.toList ≤ j → j < pos → ¬ isM (s.get! j)) ∨
   (∃ k, st s.data.toList ≤ k ∧ k < pos ∧ isM (s.get! k) ∧ m = ((s.get! k).toNat : Int) ∧ A = s.extract (st s.data.toList) k ∧ F = k + 1 ∧ ∀ j, st s.data.toList ≤ j → j < k → ¬ isM (s.get! j)))))

theorem cutInv_start (s : ByteArray) : CutInv s 0 0 false 0 ⟨#[]⟩ := ⟨Nat.zero_le _, Nat.zero_le _, Nat.le_refl _, Or.inl ⟨rfl, rfl, rfl, rfl, rfl⟩⟩

theorem dec_end (s : ByteArray) (pos : Nat) (h : pos < s.size) : pos + (Utf8.decode s pos).2 ≤ s.size := by
 have hw := Lib.decode_width_pos s pos h
 by_cases h1 : (Utf8.decode s pos).2 = 1
 · omega
 · have := (dec_cont s pos (pos + (Utf8.decode s pos).2 - 1) (by omega) (by omega)).1
   omega

theorem isM_dec (s : ByteArray) (pos j : Nat) (h : pos < s.size) (h1 : pos ≤ j) (h2 : j < pos + (Utf8.decode s pos).2) (hm : isM (s.get! j)) : j = pos ∧ (Utf8.decode s pos).1 = (s.get! pos).toNat ∧ (Utf8.decode s pos).2 = 1 := by
 unfold isM at hm
 rcases Nat.lt_or_ge pos j with h3 | h3
 · have := (dec_cont s pos j h3 h2).2
   omega
 · obtain rfl : j = pos := by omega
   rw [dec_ascii s j h (by omega)]
   exact ⟨rfl, rfl, rfl⟩

theorem cutInv_mac {s : ByteArray} {F : Nat} {B : Bool} {m : Int} {A : ByteArray} (h : 0 < s.size) (hc : (Utf8.decode s 0).1 = 175) (hi : CutInv s 0 F B m A) : CutInv s (0 + (Utf8.decode s 0).2) 2 true m A := by
 have hd := dec_mac s h
 have hm := hd.1.1 hc
 have he := dec_end s 0 h
 have hst : st s.data.toList = 2 := by unfold st; rw [if_pos hm]
 rw [hd.2 hc] at he ⊢
 obtain ⟨_, _, _, ⟨_, _, _, rfl, rfl⟩ | ⟨h0, _⟩⟩ := hi
 · exact ⟨by omega, by omega, by omega, Or.inr ⟨by omega, hm.symm, by omega, Or.inl ⟨rfl, rfl, hst.symm, fun j h1 h2 => by omega⟩⟩⟩
 · omega

theorem st_first {s : ByteArray} (h : 0 < s.size) (hc : ¬ (Utf8.decode s 0).1 = 175) : isMac s.data.toList = false ∧ st s.data.toList = 0 := by
 have hd := dec_mac s h
 have : isMac s.data.toList = false := by
  cases hh : isMac s.data.toList with
  | false => rfl
  | true => exact absurd (hd.1.2 hh) hc
 exact ⟨this, by unfold st; rw [this]; rfl⟩

theorem cutInv_open {s : ByteArray} {pos F : Nat} {B : Bool} {m : Int} {A : ByteArray} (h : pos < s.size) (hc : ¬ (pos = 0 ∧ (Utf8.decode s pos).1 = 175)) (hi : CutInv s pos F B m A) :
    F ≤ pos ∧ B = isMac s.data.toList ∧ st s.data.toList ≤ pos ∧ ((m = 0 ∧ A = ⟨#[]⟩ ∧ F = st s.data.toList ∧ ∀ j, st s.data.toList ≤ j → j < pos → ¬ isM (s.get! j)) ∨
     (∃ k, st s.data.toList ≤ k ∧ k < pos ∧ isM (s.get! k) ∧ m = ((s.get! k).toNat : Int) ∧ A = s.extract (st s.data.toList) k ∧ F = k + 1 ∧ ∀ j, st s.data.toList ≤ j → j < k → ¬ isM (s.get! j))) := by
 obtain ⟨h1, h2, h3, ⟨rfl, rfl, rfl, rfl, rfl⟩ | ⟨h0, hB, hs, hr⟩⟩ := hi
 · have hf := st_first h (fun e => hc ⟨rfl, e⟩)
   exact ⟨Nat.le_refl _, hf.1.symm, by omega, Or.inl ⟨rfl, rfl, hf.2.symm, fun j _ h2 => by omega⟩⟩
 · exact ⟨h3, hB, hs, hr⟩

theorem cutInv_mark {s : ByteArray} {pos F : Nat} {B : Bool} {A : ByteArray} (h : pos < s.size) (hc : (Utf8.decode s pos).1 = 46 ∨ (Utf8.decode s pos).1 = 114) (hi : CutInv s pos F B 0 A) :
    CutInv s (pos + (Utf8.decode s pos).2) (pos + 1) B ((Utf8.decode s pos).1 : Int) (s.extract F pos) := by
 have hl := dec_low s pos h (by omega)
 have he := dec_end s pos h
 have him : isM (s.get! pos) := by unfold isM; have := hl.1; omega
 obtain ⟨h1, hB, h2, hr⟩ := cutInv_open h (by omega) hi
 rw [hl.2] at he ⊢
 refine ⟨he, he, Nat.le_refl _, Or.inr ⟨Nat.succ_pos _, hB, Nat.le_succ_of_le h2, Or.inr ⟨pos, h2, Nat.lt_succ_self _, him, by rw [hl.1], ?_, rfl, ?_⟩⟩⟩
 · rcases hr with ⟨_, _, rfl, _⟩ | ⟨k, _, _, hk, hm, _⟩
   · rfl
   · unfold isM at hk; omega
 · rcases hr with ⟨_, _, _, hn⟩ | ⟨k, _, _, hk, hm, _⟩
   · exact hn
   · unfold isM at hk; omega

theorem cutInv_same {s : ByteArray} {pos F : Nat} {B : Bool} {m : Int} {A : ByteArray} (h : pos < s.size) (hc : ¬ (pos = 0 ∧ (Utf8.decode s pos).1 = 175)) (hm : m = 0 → ¬ ((Utf8.decode s pos).1 = 46 ∨ (Utf8.decode s pos).1 = 114)) (hi : CutInv s pos F B m A) :
    CutInv s (pos + (Utf8.decode s pos).2) F B m A := by
 have he := dec_end s pos h
 have hw := Lib.decode_width_pos s pos h
 obtain ⟨h1, hB, h2, hr⟩ := cutInv_open h hc hi
 refine ⟨he, hi.2.1, by omega, Or.inr ⟨by omega, hB, by omega, ?_⟩⟩
 rcases hr with ⟨rfl, hA, hF, hn⟩ | ⟨k, k1, k2, k3⟩
 · refine Or.inl ⟨rfl, hA, hF, fun j j1 j2 hj => ?_⟩
   rcases Nat.lt_or_ge j pos with h3 | h3
   · exact hn j j1 h3 hj
   · obtain ⟨rfl, hd, _⟩ := isM_dec s pos j h h3 j2 hj
     unfold isM at hj
     exact hm rfl (by omega)
 · exact Or.inr ⟨k, k1, by omega, k3⟩

theorem ext_list (s : ByteArray) (a b : Nat) : (s.extract a b).data.toList = (s.data.toList.drop a).take (b - a) := by
 rw [ByteArray.data_extract, Array.toList_extract]
theorem mem_at {s : ByteArray} {y : UInt8} {a n : Nat} (h : y ∈ (s.data.toList.drop a).take n) : ∃ j, a ≤ j ∧ j < a + n ∧ j < s.size ∧ s.get! j = y := by
 obtain ⟨i, hi, rfl⟩ := List.mem_iff_getElem.1 h
 have hl : i < n ∧ a + i < s.data.toList.length := by simp at hi; simp; omega
 have hs : s.size = s.data.toList.length := by simp
 refine ⟨a + i, by omega, by omega, by omega, ?_⟩
 have h1 := get_data s (a + i) (by omega)
 rw [List.getElem_take, List.getElem_drop]
 rw [List.getElem?_eq_getElem hl.2] at h1
 exact (Option.some.inj h1).symm

theorem cutInv_none {s : ByteArray} {pos F : Nat} {B : Bool} {A : ByteArray} (h : ¬ pos < s.size) (hi : CutInv s pos F B 0 A) : Cuts s.data.toList B 0 (s.extract F s.size).data.toList [] := by
 have hs : s.size = s.data.toList.length := by simp
 rw [ext_list]
 obtain ⟨h1, h2, h3, ⟨rfl, rfl, rfl, _, _⟩ | ⟨h0, hB, hst, ⟨_, _, rfl, hn⟩ | ⟨k, _, _, hk, hm, _⟩⟩⟩ := hi
 · have hl : s.data.toList = [] := List.eq_nil_of_length_eq_zero (by omega)
   rw [hl]
   exact ⟨rfl, Or.inl ⟨rfl, by simp, rfl, fun y hy => by simp at hy⟩⟩
 · refine ⟨hB, Or.inl ⟨rfl, List.take_of_length_le (by rw [List.length_drop]; omega), rfl, fun y hy => ?_⟩⟩
   obtain ⟨j, j1, j2, j3, rfl⟩ := mem_at hy
   exact hn j j1 (by omega)
 · unfold isM at hk; omega
theorem cutInv_some {s : ByteArray} {pos F : Nat} {B : Bool} {m : Int} {A : ByteArray} (h : ¬ pos < s.size) (hm0 : ¬ m = 0) (hi : CutInv s pos F B m A) : Cuts s.data.toList B m A.data.toList (s.extract F s.size).data.toList := by
 have hs : s.size = s.data.toList.length := by simp
 obtain ⟨h1, h2, h3, ⟨_, _, _, h4, _⟩ | ⟨h0, hB, hst, ⟨h4, _⟩ | ⟨k, k1, k2, hk, rfl, rfl, rfl, hn⟩⟩⟩ := hi
 · exact absurd h4 hm0
 · exact absurd h4 hm0
 rw [ext_list, ext_list]
 refine ⟨hB, Or.inr ⟨s.get! k, hk, rfl, ?_, fun y hy => ?_⟩⟩
 · have hg := get_data s k (by omega)
   have hkl : k < s.data.toList.length := by omega
   rw [List.getElem?_eq_getElem hkl] at hg
   have hg' := Option.some.inj hg
   rw [List.take_of_length_le (i := s.size - (k + 1)) (by rw [List.length_drop]; omega), ← hg', ← List.drop_eq_getElem_cons hkl]
   have e : s.data.toList.drop k = (s.data.toList.drop (st s.data.toList)).drop (k - st s.data.toList) := by
    rw [List.drop_drop]; congr 1; omega
   rw [e, List.take_append_drop]
 · obtain ⟨j, j1, j2, j3, rfl⟩ := mem_at hy
   exact hn j j1 (by omega)

theorem cuts_unique {l A H A' H' : List UInt8} {B : Bool} {m : Int} {x : UInt8} (h : Cuts l B m A H) (hx : isM x) (e : l.drop (st l) = A' ++ x :: H') (hn : ∀ y ∈ A', ¬ isM y) : m = (x.toNat : Int) ∧ A = A' ∧ H = H' := by
 have key : ∀ (A A' H H' : List UInt8) (x y : UInt8), isM x → isM y → (∀ z ∈ A, ¬ isM z) → (∀ z ∈ A', ¬ isM z) → A ++ x :: H = A' ++ y :: H' → x = y ∧ A = A' ∧ H = H' := by
  intro A
  induction A with
  | nil =>
   intro A' H H' x y hx hy _ h2 e
   cases A' with
   | nil => simp at e; exact ⟨e.1, rfl, e.2⟩
   | cons a A' =>
    simp at e
    exact absurd (e.1 ▸ hx) (h2 a (by simp))
  | cons a A ih =>
   intro A' H H' x y hx hy h1 h2 e
   cases A' with
   | nil =>
    simp at e
    exact absurd (e.1 ▸ hy) (h1 a (by simp))
   | cons b A' =>
    simp at e
    obtain ⟨e1, e2, e3⟩ := ih A' H H' x y hx hy (fun z hz => h1 z (by simp [hz])) (fun z hz => h2 z (by simp [hz])) e.2
    exact ⟨e1, by rw [e.1, e2], e3⟩
 obtain ⟨_, ⟨_, hA, _, hm⟩ | ⟨y, hy, rfl, e', hm⟩⟩ := h
 · rw [e] at hA
   exact absurd hx (hm x (by rw [hA]; simp))
 · obtain ⟨rfl, rfl, rfl⟩ := key _ _ _ _ _ _ hy hx hm hn (e'.symm.trans e)
   exact ⟨rfl, rfl, rfl⟩
end Go.Proofs.YtimfnalpmmkndaaGreatDoor

/- rat.tooLong: has a text more than 700 characters? -/
namespace Go.Proofs.YtimfnalpmmkndaaGreatDoor
set_option linter.unusedVariables false
set_option linter.unusedSimpArgs false
open Go.RowKit

set_option maxRecDepth 100000 in
set_option maxHeartbeats 1600000 in
theorem tooLong_any (s : ByteArray) (w : World) :
    Calls Tryz.prog 213 #[.string s] w fun e w' => e = .returned (.bool (decide (700 < Lib.runeCount s))) ∧ Below w.heap.size w w' := by
 go_enter Tryz.func213, Tryz.ntmps213
 go_wp2
 go_loopw [3] (fun n wr => ∃ (pos fuel cnt : Nat), wr = w.iter s pos ∧ n = .int .i64 cnt ∧ cnt ≤ 700 ∧ Hid (cnt + Lib.runeCountFrom s fuel pos = Lib.runeCount s) ∧ s.size ≤ pos + fuel) (fun _ wr => s.size - wr.iterPos w.heap.size)
 case atStart => exact ⟨0, s.size, 0, rfl, rfl, by omega, (by unfold Hid; simp [Lib.runeCount]), by omega⟩
 case round =>
  obtain ⟨pos, fuel, cnt, rfl, rfl, hc, HC, hf⟩ := hrel
  by_cases hp : pos < s.size
  · have hnx : ∀ ty, (Instr.next (.pointer (some ⟨w.heap.size, 0, none⟩)) true ty).run Tryz.prog (w.iter s pos) = _ := fun ty => run_next_any w s pos ty hp
    have hwd := Lib.decode_width_pos s pos hp
    obtain ⟨f, rfl⟩ : ∃ f, fuel = f + 1 := ⟨fuel - 1, by omega⟩
    have HS : Hid (Lib.runeCountFrom s (f + 1) pos = 1 + Lib.runeCountFrom s f (pos + (Utf8.decode s pos).2)) := by
     unfold Hid
     rw [Lib.runeCountFrom, if_pos hp]
    generalize (Utf8.decode s pos).2 = n at *
    generalize (Utf8.decode s pos).1 = C at *
    have HB : Below w.heap.size w (w.iter s (pos + n)) := below_alloc _ _
    by_cases h7 : cnt = 700
    · subst h7
      have HR : Hid (decide (700 < Lib.runeCount s) = true) := by
       unfold Hid; rw [decide_eq_true_iff]; have := HC.out; have := HS.out; omega
      go_wp2
      go_ret
      exact ⟨by rw [HR.out]; rfl, HB⟩
    · have h7' : ¬ 700 < cnt + 1 := by omega
      go_wp2
      go_roundw
      case rel => exact ⟨pos + n, f, cnt + 1, rfl, by go_num, by omega, (by unfold Hid; have := HC.out; have := HS.out; omega), by omega⟩
      case measure => simp only [World.iterPos_iter]; omega
  · have hnx : ∀ ty, (Instr.next (.pointer (some ⟨w.heap.size, 0, none⟩)) true ty).run Tryz.prog (w.iter s pos) = _ := fun ty => run_next_end w s pos ty hp
    have HR : Hid (decide (700 < Lib.runeCount s) = false) := by
     unfold Hid; rw [decide_eq_false_iff_not]; have := HC.out; rw [Lib.runeCountFrom_end s fuel pos hp] at this; omega
    have HB : Below w.heap.size w (w.iter s pos) := below_alloc _ _
    go_wp2
    go_ret
    exact ⟨by rw [HR.out]; rfl, HB⟩
def Box4 (w : World) (B ty : Nat) (x y z u : Value) : Prop := w.heap[B]? = some (.cells #[x, y, z, u] ty (0, 0))
section
variable {w : World} {B ty : Nat} {x y z u : Value}
theorem box4_new (w : World) (x y z u : Value) (t : Nat) : Box4 (w.alloc (.cells #[x, y, z, u] t)) w.heap.size t x y z u := heap_alloc_new _ _
theorem Box4.below {w' : World} {base : Nat} (h : Box4 w B ty x y z u) (hb : Below base w w') (hB : B < base) : Box4 w' B ty x y z u := by
 unfold Box4; rw [hb.block B hB]; exact h
theorem Box4.c0 (h : Box4 w B ty x y z u) : w.cell? ⟨B, 0, none⟩ = some x := by unfold Box4 at h; simp [World.cell?, h]
theorem Box4.c1 (h : Box4 w B ty x y z u) : w.cell? ⟨B, 1, none⟩ = some y := by unfold Box4 at h; simp [World.cell?, h]
theorem Box4.c2 (h : Box4 w B ty x y z u) : w.cell? ⟨B, 2, none⟩ = some z := by unfold Box4 at h; simp [World.cell?, h]
theorem Box4.c3 (h : Box4 w B ty x y z u) : w.cell? ⟨B, 3, none⟩ = some u := by unfold Box4 at h; simp [World.cell?, h]
theorem Box4.f0 (h : Box4 w B ty x y z u) : w.frozen? ⟨B, 0, none⟩ = false := by unfold Box4 at h; simp [World.frozen?, h]
theorem Box4.f1 (h : Box4 w B ty x y z u) : w.frozen? ⟨B, 1, none⟩ = false := by unfold Box4 at h; simp [World.frozen?, h]
theorem Box4.f2 (h : Box4 w B ty x y z u) : w.frozen? ⟨B, 2, none⟩ = false := by unfold Box4 at h; simp [World.frozen?, h]
theorem Box4.f3 (h : Box4 w B ty x y z u) : w.frozen? ⟨B, 3, none⟩ = false := by unfold Box4 at h; simp [World.frozen?, h]
theorem Box4.set0 (h : Box4 w B ty x y z u) (v : Value) : Box4 (w.setCell ⟨B, 0, none⟩ v) B ty v y z u := by
 unfold Box4 at h ⊢; simp [World.setCell, Array.getElem?_modify, h]
theorem Box4.set1 (h : Box4 w B ty x y z u) (v : Value) : Box4 (w.setCell ⟨B, 1, none⟩ v) B ty x v z u := by
 unfold Box4 at h ⊢; simp [World.setCell, Array.getElem?_modify, h]
theorem Box4.set2 (h : Box4 w B ty x y z u) (v : Value) : Box4 (w.setCell ⟨B, 2, none⟩ v) B ty x y v u := by
 unfold Box4 at h ⊢; simp [World.setCell, Array.getElem?_modify, h]
theorem Box4.set3 (h : Box4 w B ty x y z u) (v : Value) : Box4 (w.setCell ⟨B, 3, none⟩ v) B ty x y z v := by
 unfold Box4 at h ⊢; simp [World.setCell, Array.getElem?_modify, h]
theorem Box4.other (h : Box4 w B ty x y z u) {p : Addr} (hp : p.block ≠ B) (v : Value) : Box4 (w.setCell p v) B ty x y z u := by
 unfold Box4 at h ⊢
 have : ¬ p.block = B := hp
 simp [World.setCell, Array.getElem?_modify, h, this]
theorem Box4.iterAt (h : Box4 w B ty x y z u) {k : Nat} (hk : B ≠ k) (s : ByteArray) (pos : Nat) : Box4 (w.iterAt k s pos) B ty x y z u := by
 unfold Box4; rw [Lib.iterAt_other w k B s pos hk]; exact h
theorem iter_set {w : World} {k : Nat} {s : ByteArray} {pos : Nat} (h : w.heap[k]? = some (.stringIter s pos)) {p : Addr} (hp : p.block ≠ k) (v : Value) : (w.setCell p v).heap[k]? = some (.stringIter s pos) := by
 have : ¬ p.block = k := hp
 simp [World.setCell, Array.getElem?_modify, h, this]
end

set_option maxRecDepth 100000 in
set_option maxHeartbeats 3200000 in
theorem cut_any (s : ByteArray) (w : World) (hs : s.size ≤ 1000000000) :
    Calls Tryz.prog 214 #[.string s] w fun e w' => Below w.heap.size w w' ∧ ∃ B m A H, e = .returned (.agg #[.bool B, .int .i32 m, .string A, .string H]) ∧ Hid (Cuts s.data.toList B m A.data.toList H.data.toList) ∧ A.size ≤ s.size ∧ H.size ≤ s.size := by
 go_enter Tryz.func214, Tryz.ntmps214
 go_wp2
 go_loopw [4] (fun fr wr => ∃ (pos F : Nat) (B : Bool) (m : Int) (A : ByteArray), fr = .int .i64 F ∧ F ≤ s.size ∧ F ≤ pos ∧ Hid (CutInv s pos F B m A) ∧ A.size ≤ s.size ∧ wr.heap[w.heap.size + 1 + 1]? = some (.stringIter s pos) ∧ Box4 wr w.heap.size 258 (.bool false) (.int .i32 0) (.string ⟨#[]⟩) (.string ⟨#[]⟩) ∧ Box4 wr (w.heap.size + 1) 258 (.bool B) (.int .i32 m) (.string A) (.string ⟨#[]⟩) ∧ Below w.heap.size w wr) (fun _ wr => s.size - wr.iterPos (w.heap.size + 1 + 1))
 case atStart =>
  refine ⟨0, 0, false, 0, ⟨#[]⟩, rfl, Nat.zero_le _, Nat.le_refl _, cutInv_start s, Nat.zero_le _, ?_, ?_, ?_, ?_⟩
  · have h := World.iter_heap ((w.alloc (.cells #[.bool false, .int .i32 0, .string ⟨#[]⟩, .string ⟨#[]⟩] 258)).alloc (.cells #[.bool false, .int .i32 0, .string ⟨#[]⟩, .string ⟨#[]⟩] 258)) s 0
    simpa using h
  · exact ((box4_new w _ _ _ _ _).below (below_alloc _ _) (by simp)).below (below_alloc _ _) (by simp <;> omega)
  · have h := (box4_new (w.alloc (.cells #[.bool false, .int .i32 0, .string ⟨#[]⟩, .string ⟨#[]⟩] 258)) (.bool false) (.int .i32 0) (.string ⟨#[]⟩) (.string ⟨#[]⟩) 258).below (below_alloc _ (.stringIter s 0)) (by simp)
    rw [World.size_alloc] at h
    exact h
  · exact ((below_alloc w _).alloc (by simp) _).alloc (by simp <;> omega) _
 case round =>
  obtain ⟨pos, F, B, m, A, rfl, hF, hFp, HI, hA, hit, hR, hV, hb⟩ := hrel
  have hsz : w.heap.size + 1 + 1 < wr.heap.size := (Array.getElem?_eq_some_iff.1 hit).1
  by_cases hp : pos < s.size
  · have hnx : ∀ ty, (Instr.next (.pointer (some ⟨w.heap.size + 1 + 1, 0, none⟩)) true ty).run Tryz.prog wr = _ := fun ty => Lib.run_next_any_at wr (w.heap.size + 1 + 1) s pos ty hit hp
    have hwd := Lib.decode_width_pos s pos hp
    have hd1 := decode_le s pos
    have Hmac : Hid (pos = 0 → (Utf8.decode s pos).1 = 175 → CutInv s (pos + (Utf8.decode s pos).2) 2 true m A) := by
     rintro rfl hc
     exact cutInv_mac hp hc HI.out
    have Hmark : Hid ((Utf8.decode s pos).1 = 46 ∨ (Utf8.decode s pos).1 = 114 → m = 0 → CutInv s (pos + (Utf8.decode s pos).2) (pos + 1) B ((Utf8.decode s pos).1 : Int) (s.extract F pos)) := by
     rintro hc rfl
     exact cutInv_mark hp hc HI.out
    have Hsame : Hid (¬ (pos = 0 ∧ (Utf8.decode s pos).1 = 175) → (m = 0 → ¬ ((Utf8.decode s pos).1 = 46 ∨ (Utf8.decode s pos).1 = 114)) → CutInv s (pos + (Utf8.decode s pos).2) F B m A) := fun hc hm => cutInv_same hp hc hm HI.out
    have hex : (s.extract F pos).size ≤ s.size := by rw [ByteArray.size_extract]; omega
    have hsl : ∀ W0 : World, (Instr.slice 9 (.string s) (some (.int .i64 F)) (some (.int .i64 pos)) none).run Tryz.prog W0 = .ok (.string (s.extract F pos)) W0 := fun W0 => run_slice_string W0 9 s .i64 .i64 F pos Tryz.underlying9 (by omega) (by omega) (by omega)
    have hit2 := Lib.iterAt_heap wr (w.heap.size + 1 + 1) s pos (pos + (Utf8.decode s pos).2) hit
    have hb2 := Lib.below_iterAt hb (k := w.heap.size + 1 + 1) (by omega) s (pos + (Utf8.decode s pos).2)
    have hR2 := hR.iterAt (k := w.heap.size + 1 + 1) (by omega) s (pos + (Utf8.decode s pos).2)
    have hV2 := hV.iterAt (k := w.heap.size + 1 + 1) (by omega) s (pos + (Utf8.decode s pos).2)
    have HQ : Hid (wr.iterPos (w.heap.size + 1 + 1) = pos) := by unfold Hid; simp only [World.iterPos, hit]
    generalize (Utf8.decode s pos).2 = n at *
    generalize (Utf8.decode s pos).1 = C at *
    generalize wr.iterAt (w.heap.size + 1 + 1) s (pos + n) = W2 at *
    clear HI hit hR hV hb
    have q0 := hV2.c0
    have q1 := hV2.c1
    have q2 := hV2.c2
    have p0 := hV2.f0
    have p1 := hV2.f1
    have p2 := hV2.f2
    have hcs : (pos = 0 ∧ C = 175) ∨ (¬ pos = 0 ∧ C = 175) ∨ (C = 46 ∧ m = 0) ∨ (C = 114 ∧ m = 0) ∨ (C = 46 ∧ ¬ m = 0) ∨ (C = 114 ∧ ¬ m = 0) ∨ (¬ C = 175 ∧ ¬ C = 46 ∧ ¬ C = 114) := by omega
    rcases hcs with ⟨rfl, rfl⟩ | ⟨h0, rfl⟩ | ⟨rfl, rfl⟩ | ⟨rfl, rfl⟩ | ⟨rfl, h0⟩ | ⟨rfl, h0⟩ | ⟨h1, h2, h3⟩
    · have HI2 : Hid (CutInv s (0 + n) 2 true m A) := Hmac.out rfl rfl
      have h2s : 2 ≤ s.size ∧ 2 ≤ 0 + n := ⟨HI2.out.2.1, HI2.out.2.2.1⟩
      clear Hmac Hmark Hsame
      go_wp2
      go_roundw
      case rel => exact ⟨0 + n, 2, true, m, A, rfl, h2s.1, h2s.2, HI2, hA, iter_set hit2 (by simp <;> omega) _, hR2.other (by simp <;> omega) _, hV2.set0 _, hb2.setCell (p := ⟨w.heap.size + 1, 0, none⟩) (by simp) _⟩
      case measure =>
       rw [HQ.out]
       simp only [World.iterPos, iter_set hit2 (p := ⟨w.heap.size + 1, 0, none⟩) (by simp <;> omega)]
       omega
    · have HI2 : Hid (CutInv s (pos + n) F B m A) := Hsame.out (by omega) (by omega)
      have t0 : ((pos : Int) == 0) = false := by rw [beq_eq_false_iff_ne]; omega
      clear Hmac Hmark Hsame
      go_wp2
      go_roundw
      case rel => exact ⟨pos + n, F, B, m, A, rfl, hF, by omega, HI2, hA, hit2, hR2, hV2, hb2⟩
      case measure =>
       rw [HQ.out]
       simp only [World.iterPos, hit2]
       omega
    · have HI2 : Hid (CutInv s (pos + n) (pos + 1) B ((46 : Nat) : Int) (s.extract F pos)) := Hmark.out (Or.inl rfl) rfl
      clear Hmac Hmark Hsame
      go_wp2
      go_roundw
      case rel => exact ⟨pos + n, pos + 1, B, _, s.extract F pos, by go_num, HI2.out.2.1, HI2.out.2.2.1, HI2, hex, iter_set (iter_set hit2 (by simp <;> omega) _) (by simp <;> omega) _, (hR2.other (by simp <;> omega) _).other (by simp <;> omega) _, (hV2.set1 _).set2 _, (hb2.setCell (p := ⟨w.heap.size + 1, 1, none⟩) (by simp) _).setCell (p := ⟨w.heap.size + 1, 2, none⟩) (by simp) _⟩
      case measure =>
       rw [HQ.out]
       simp only [World.iterPos, iter_set (iter_set hit2 (p := ⟨w.heap.size + 1, 1, none⟩) (by simp <;> omega) _) (p := ⟨w.heap.size + 1, 2, none⟩) (by simp <;> omega)]
       omega
    · have HI2 : Hid (CutInv s (pos + n) (pos + 1) B ((114 : Nat) : Int) (s.extract F pos)) := Hmark.out (Or.inr rfl) rfl
      clear Hmac Hmark Hsame
      go_wp2
      go_roundw
      case rel => exact ⟨pos + n, pos + 1, B, _, s.extract F pos, by go_num, HI2.out.2.1, HI2.out.2.2.1, HI2, hex, iter_set (iter_set hit2 (by simp <;> omega) _) (by simp <;> omega) _, (hR2.other (by simp <;> omega) _).other (by simp <;> omega) _, (hV2.set1 _).set2 _, (hb2.setCell (p := ⟨w.heap.size + 1, 1, none⟩) (by simp) _).setCell (p := ⟨w.heap.size + 1, 2, none⟩) (by simp) _⟩
      case measure =>
       rw [HQ.out]
       simp only [World.iterPos, iter_set (iter_set hit2 (p := ⟨w.heap.size + 1, 1, none⟩) (by simp <;> omega) _) (p := ⟨w.heap.size + 1, 2, none⟩) (by simp <;> omega)]
       omega
    · have HI2 : Hid (CutInv s (pos + n) F B m A) := Hsame.out (by omega) (by omega)
      have t0 : (m == 0) = false := by rw [beq_eq_false_iff_ne]; omega
      clear Hmac Hmark Hsame
      go_wp2
      go_roundw
      case rel => exact ⟨pos + n, F, B, m, A, rfl, hF, by omega, HI2, hA, hit2, hR2, hV2, hb2⟩
      case measure =>
       rw [HQ.out]
       simp only [World.iterPos, hit2]
       omega
    · have HI2 : Hid (CutInv s (pos + n) F B m A) := Hsame.out (by omega) (by omega)
      have t0 : (m == 0) = false := by rw [beq_eq_false_iff_ne]; omega
      clear Hmac Hmark Hsame
      go_wp2
      go_roundw
      case rel => exact ⟨pos + n, F, B, m, A, rfl, hF, by omega, HI2, hA, hit2, hR2, hV2, hb2⟩
      case measure =>
       rw [HQ.out]
       simp only [World.iterPos, hit2]
       omega
    · have HI2 : Hid (CutInv s (pos + n) F B m A) := Hsame.out (by omega) (by omega)
      have t0 : ((C : Int) == 175) = false := by rw [beq_eq_false_iff_ne]; omega
      have t1 : ((C : Int) == 46) = false := by rw [beq_eq_false_iff_ne]; omega
      have t2 : ((C : Int) == 114) = false := by rw [beq_eq_false_iff_ne]; omega
      clear Hmac Hmark Hsame
      go_wp2
      go_roundw
      case rel => exact ⟨pos + n, F, B, m, A, rfl, hF, by omega, HI2, hA, hit2, hR2, hV2, hb2⟩
      case measure =>
       rw [HQ.out]
       simp only [World.iterPos, hit2]
       omega
  · have hnx : ∀ ty, (Instr.next (.pointer (some ⟨w.heap.size + 1 + 1, 0, none⟩)) true ty).run Tryz.prog wr = _ := fun ty => Lib.run_next_end_at wr (w.heap.size + 1 + 1) s pos ty hit hp
    have hex : (s.extract F s.size).size ≤ s.size := by rw [ByteArray.size_extract]; omega
    have q0 := hV.c0
    have q1 := hV.c1
    have q2 := hV.c2
    have q3 := hV.c3
    have p2 := hV.f2
    have p3 := hV.f3
    have k0 := hR.f0
    have k1 := hR.f1
    have k2 := hR.f2
    have k3 := hR.f3
    have e0 := hR.c0
    have e1 := hR.c1
    have e2 := hR.c2
    have e3 := hR.c3
    by_cases hm : m = 0
    · subst hm
      have HC : Hid (Cuts s.data.toList B 0 (s.extract F s.size).data.toList []) := cutInv_none hp HI.out
      go_wp2
      have hR3 := (((((hR.other (p := ⟨w.heap.size + 1, 2, none⟩) (by simp <;> omega) (.string (s.extract F s.size))).set0 (.bool B)).set1 (.int .i32 0)).set2 (.string (s.extract F s.size))).set3 (.string ⟨#[]⟩))
      have r0 := hR3.c0
      have r1 := hR3.c1
      have r2 := hR3.c2
      have r3 := hR3.c3
      try simp only [Exit.inBlock, Exit.then]
      refine bodyPost_ret (v := .agg #[.bool B, .int .i32 0, .string (s.extract F s.size), .string ⟨#[]⟩]) ?_ rfl ?_
      · simp [results, Tryz.results214, go_sem, r0, r1, r2, r3]
      exact ⟨((((hb.setCell (p := ⟨w.heap.size + 1, 2, none⟩) (by simp) _).setCell (p := ⟨w.heap.size, 0, none⟩) (by simp) _).setCell (p := ⟨w.heap.size, 1, none⟩) (by simp) _).setCell (p := ⟨w.heap.size, 2, none⟩) (by simp) _).setCell (p := ⟨w.heap.size, 3, none⟩) (by simp) _, B, 0, _, _, rfl, HC, hex, Nat.zero_le _⟩
    · have t0 : (m == 0) = false := by rw [beq_eq_false_iff_ne]; exact hm
      have HC : Hid (Cuts s.data.toList B m A.data.toList (s.extract F s.size).data.toList) := cutInv_some hp hm HI.out
      go_wp2
      have hR3 := (((((hR.other (p := ⟨w.heap.size + 1, 3, none⟩) (by simp <;> omega) (.string (s.extract F s.size))).set0 (.bool B)).set1 (.int .i32 m)).set2 (.string A)).set3 (.string (s.extract F s.size)))
      have r0 := hR3.c0
      have r1 := hR3.c1
      have r2 := hR3.c2
      have r3 := hR3.c3
      try simp only [Exit.inBlock, Exit.then]
      refine bodyPost_ret (v := .agg #[.bool B, .int .i32 m, .string A, .string (s.extract F s.size)]) ?_ rfl ?_
      · simp [results, Tryz.results214, go_sem, r0, r1, r2, r3]
      exact ⟨((((hb.setCell (p := ⟨w.heap.size + 1, 3, none⟩) (by simp) _).setCell (p := ⟨w.heap.size, 0, none⟩) (by simp) _).setCell (p := ⟨w.heap.size, 1, none⟩) (by simp) _).setCell (p := ⟨w.heap.size, 2, none⟩) (by simp) _).setCell (p := ⟨w.heap.size, 3, none⟩) (by simp) _, B, m, _, _, rfl, HC, hA, hex⟩
end Go.Proofs.YtimfnalpmmkndaaGreatDoor

/- (*running).timesLimb: the number becomes f times as great, and more is added. -/
namespace Go.Proofs.YtimfnalpmmkndaaGreatDoor
set_option linter.unusedVariables false
set_option linter.unusedSimpArgs false
open Go.RowKit

theorem take_set_succ (vs : List Int) (i : Nat) (z : Int) (h : i < vs.length) : (vs.set i z).take (i + 1) = vs.take i ++ [z] := by
 rw [take_succ_getD _ _ (by simpa using h), getD_set, if_pos ⟨rfl, h⟩]
 congr 1
 rw [List.take_set_of_le (Nat.le_refl _)]
theorem drop_set_succ (vs : List Int) (i : Nat) (z : Int) : (vs.set i z).drop (i + 1) = vs.drop (i + 1) := by
 rw [List.drop_set_of_lt (by omega)]

theorem tl_step (vs xs : List Int) (i : Nat) (C f m t : Int) (hi : i < xs.length) (hl : vs.length = xs.length) (h : val (vs.take i) + C * pw i = val (xs.take i) * f + m) (ht : t = xs.getD i 0 * f + C) :
    val ((vs.set i (t % 4294967296)).take (i + 1)) + t / 4294967296 * pw (i + 1) = val (xs.take (i + 1)) * f + m := by
 rw [take_set_succ vs i _ (by omega), val_append, val_take_succ xs i hi, pw_succ]
 simp only [val, List.length_take]
 rw [Nat.min_eq_left (by omega)]
 have e : t = t % 4294967296 + t / 4294967296 * 4294967296 := by omega
 generalize t % 4294967296 = z at *
 generalize t / 4294967296 = q at *
 have key : (z + q * 4294967296) * pw i = (xs.getD i 0 * f + C) * pw i := by rw [← e, ht]
 simp only [Int.mul_zero, Int.add_zero] at *
 simp only [Int.add_mul, Int.mul_add, Int.mul_assoc, Int.mul_comm, Int.mul_left_comm] at *
 omega

set_option maxHeartbeats 1600000 in
theorem timesLimb_walk {base B ty : Nat} {w : World} {xs : List Int} (a : Option Addr) (c L : Nat) (f m : Int) (hf : 0 ≤ f ∧ f < 4294967296) (hm : 0 ≤ m ∧ m < 4294967296) (hty : ty ≠ 196) (hxl : Hid (xs.length = L)) (hbox : Box w B ty (.slice a L c)) (hown : Own base w (.slice a L c) xs) (hBb : base ≤ B) (hbs : base ≤ w.heap.size)
    (hn : L ≤ 1000000000) :
    Calls Tryz.prog 242 #[.pointer (some ⟨B, 0, none⟩), .int .u32 f, .int .u32 m] w fun e w' => e = .returned (.tuple #[]) ∧ ∃ zs, lim zs ∧ val zs = val xs * f + m ∧ zs.length ≤ L + 1 ∧ L ≤ zs.length ∧ (L < zs.length → ¬ zs.getD (zs.length - 1) 0 = 0) ∧ St base w' B ty zs ∧ Below base w w' := by
 have hc := cell_of_one hbox
 have hf0 := free_of_one hbox
 have lx := hown.lim
 go_enter Tryz.func242, Tryz.ntmps242
 go_wp2
 go_loopw [17, 6] (fun s r wr => ∃ (i : Nat) (C : Int) (vs : List Int), i ≤ L ∧ s = .int .i64 i ∧ r = .int .u64 C ∧ 0 ≤ C ∧ C < 4294967296 ∧ Hid (vs.length = L) ∧ Own base wr (.slice a L c) vs ∧ Box wr B ty (.slice a L c) ∧ Kept2 w wr B (Value.slice a L c).ownBlock ∧ Hid (vs.drop i = xs.drop i) ∧ Hid (val (vs.take i) + C * pw i = val (xs.take i) * f + m))
  (fun s _ _ => L - (intOf s).toNat)
 case atStart => exact ⟨0, m, xs, Nat.zero_le _, rfl, rfl, hm.1, hm.2, hxl, hown, hbox, Kept2.refl _ _ _, rfl, by unfold Hid; simp [val, pw_zero]⟩
 case round =>
  obtain ⟨i, C, vs, hiL, rfl, rfl, hC0, hC1, hvl, hown3, hbox3, hbl3, hdrop, hval3⟩ := hrel
  have hc3 := cell_of_one hbox3
  clear hc hf0 hbox hown
  have hsz3 := hbl3.size
  by_cases hlt : i < L
  · rcases hown3.shape with ⟨hnil, hnil2⟩ | ⟨g, cap, hv, hgb, hgs, _, _⟩
    · have := hvl.out; rw [hnil2] at this; simp at this; omega
    have ha2 : a = some ⟨g, 0, none⟩ := by
     have := congrArg (fun v : Value => match v with | .slice a _ _ => a | _ => none) hv
     exact this
    clear hv
    subst ha2
    have hcv := hown3.cellAt hvl.out i (by omega)
    have hfv := hown3.frozenAt hvl.out i
    have hneB := own_box_ne hbox3 hown3 hty
    have hneB' : g ≠ B := fun e => hneB (by rw [e]; rfl)
    have hvx : vs.getD i 0 = xs.getD i 0 := by
     have h1 := congrArg (fun l : List Int => l.getD 0 0) hdrop.out
     simpa [List.getD, List.getElem?_drop] using h1
    rw [hvx] at hcv
    have rx := lim_getD lx i
    have hmb := mul_bound rx hf
    have hst := tl_step vs xs i C f m _ (by rw [hxl.out]; exact hlt) (by rw [hxl.out, hvl.out]) hval3.out rfl
    have hS := hown3.stored hvl.out i ((xs.getD i 0 * f + C) % 4294967296) (by omega)
    generalize hXF : xs.getD i 0 * f = P at *
    generalize xs.getD i 0 = X at *
    have HXF : X * f = P := hXF
    have HST : Hid (val ((vs.set i ((P + C) % 4294967296)).take (i + 1)) + (P + C) / 4294967296 * pw (i + 1) = val (xs.take (i + 1)) * f + m) := hst
    clear hst hXF
    go_wp2
    go_roundw
    case rel => exact ⟨i + 1, (P + C) / 4294967296, vs.set i ((P + C) % 4294967296), by omega, by go_num, by go_num, by omega, by omega, (by unfold Hid; rw [List.length_set]; exact hvl.out), hS, box_set hbox3 hneB' _ _, hbl3.setCell (p := ⟨g, i, none⟩) (Or.inr rfl) _, (by unfold Hid; rw [drop_set_succ]; have h1 := congrArg (fun l : List Int => l.drop 1) hdrop.out; simpa [List.drop_drop] using h1), HST⟩
    case measure => simp [intOf]; omega
  · obtain rfl : i = L := by omega
    have hvl' := hvl.out
    have hSt : St base wr B ty vs := ⟨a, c, by rw [hvl']; exact hbox3, by rw [hvl']; exact hown3, hBb, by omega⟩
    have hfin : val vs + C * pw vs.length = val xs * f + m := by
     have h3 := hval3.out
     rw [List.take_of_length_le (by omega), List.take_of_length_le (by rw [hxl.out]; omega), ← hvl'] at h3
     exact h3
    have HF : Hid (val vs + C * pw vs.length = val xs * f + m) := hfin
    have HL : Hid (vs.length = i) := hvl'
    have hlv : vs.length ≤ 17592186044416 := by omega
    clear hfin hvl'
    go_wp2_with fail
    refine (push_any C hC0 hC1 hty hSt hlv).mono ?_
    rintro e w2 ⟨rfl, hst2, hb2⟩
    go_wp2
    go_end0
    have hL := HL.out
    have hlim : lim (pushed vs C) := by obtain ⟨_, _, _, ho, _⟩ := hst2; exact ho.lim
    refine ⟨rfl, pushed vs C, hlim, by rw [val_pushed]; exact HF.out, ?_, ?_, ?_, hst2, (hbl3.below hBb hbs (fun k hk => (hown3.2.lt k hk).1)).trans hb2⟩
    · unfold pushed; split
      · omega
      · simp; omega
    · unfold pushed; split
      · omega
      · simp; omega
    · unfold pushed; split
      · intro h; omega
      · intro _
        rw [List.length_append]
        simp
        assumption

theorem timesLimb_any {base B ty : Nat} {w : World} {xs : List Int} (f m : Int) (hf : 1 ≤ f ∧ f < 4294967296) (hm : 0 ≤ m ∧ m < 4294967296) (hty : ty ≠ 196) (cx : can xs) (hs : St base w B ty xs) (hn : xs.length ≤ 1000000000) :
    Calls Tryz.prog 242 #[.pointer (some ⟨B, 0, none⟩), .int .u32 f, .int .u32 m] w fun e w' => e = .returned (.tuple #[]) ∧ ∃ zs, can zs ∧ val zs = val xs * f + m ∧ zs.length ≤ xs.length + 1 ∧ St base w' B ty zs ∧ Below base w w' := by
 obtain ⟨a, c, hbox, hown, hBb, hbs⟩ := hs
 refine (timesLimb_walk a c xs.length f m (by omega) hm hty rfl hbox hown hBb hbs hn).mono ?_
 rintro e w' ⟨rfl, zs, lz, vz, l1, l2, ht, hst, hb⟩
 refine ⟨rfl, zs, ?_, vz, l1, hst, hb⟩
 by_cases hl : xs.length < zs.length
 · exact ⟨lz, Or.inr (ht hl)⟩
 · have e : zs.length = xs.length := by omega
   refine can_of_low lz ?_
   by_cases h0 : xs.length = 0
   · left; omega
   · right
     have h1 := can_low cx (by omega)
     have h2 : val xs * 1 ≤ val xs * f := Int.mul_le_mul_of_nonneg_left (by omega) (val_bound cx.1).1
     rw [e]; omega
theorem dval_lt {l : List UInt8} (h : digs l) : dval l < 10 ^ l.length := by
 induction l with
 | nil => decide
 | cons b l ih =>
  have hb := h b (by simp)
  have h2 := ih (fun c hc => h c (by simp [hc]))
  have e : dval (b :: l) = (b.toNat - 48) * 10 ^ l.length + dval l := by
   show (b :: l).foldl _ 0 = _
   rw [List.foldl_cons, dval_from]; simp
  rw [e, List.length_cons, Nat.pow_succ]
  have h3 : (b.toNat - 48) * 10 ^ l.length ≤ 9 * 10 ^ l.length := Nat.mul_le_mul_right _ (by omega)
  omega

theorem own_nil' (base : Nat) (w : World) : Own base w (.slice none 0 0) [] := ⟨lim_nil, World.ownsRow_nil _ _ _ _⟩

theorem byte_at {s : ByteArray} {l : List UInt8} (h : s.data.toList = l) (i : Nat) (hi : i < l.length) : s[i]'(by rw [show s.size = l.length by rw [← h]; rfl]; exact hi) = l[i] := by
 subst h
 rfl

set_option maxRecDepth 100000 in
set_option maxHeartbeats 1600000 in
theorem read_any {base B : Nat} {w : World} {xs : List Int} (s : ByteArray) (l : List UInt8) (hl : Hid (s.data.toList = l)) (hd : digs l) (h9 : l.length ≤ 9) (cx : can xs) (hs : St base w B 267 xs) (hn : xs.length ≤ 1000000000) :
    Calls Tryz.prog 229 #[.pointer (some ⟨B, 0, none⟩), .string s] w fun e w' => e = .returned (.tuple #[]) ∧ ∃ zs, can zs ∧ val zs = val xs * 10 ^ l.length + dval l ∧ zs.length ≤ xs.length + 1 ∧ St base w' B 267 zs ∧ Below base w w' := by
 have hsz : s.size = l.length := by rw [← hl.out]; rfl
 go_enter Tryz.func229, Tryz.ntmps229
 go_wp2
 go_loopw [9, 4, 5] (fun ii sc gr wr => ∃ (i S G : Nat), i ≤ l.length ∧ ii = .int .i64 i ∧ sc = .int .u32 S ∧ gr = .int .u32 G ∧ Hid (S = 10 ^ i ∧ G = dval (l.take i)) ∧ wr = w)
  (fun ii _ _ _ => l.length - (intOf ii).toNat)
 case atStart => exact ⟨0, 1, 0, Nat.zero_le _, rfl, rfl, rfl, ⟨rfl, rfl⟩, rfl⟩
 case round =>
  obtain ⟨i, S, G, hi, rfl, rfl, rfl, hSG, rfl⟩ := hrel
  by_cases hlt : i < l.length
  · have hb := byte_at hl.out i hlt
    have hdb := hd _ (List.getElem_mem hlt)
    have hp : 10 ^ i ≤ 10 ^ 8 := Nat.pow_le_pow_right (by decide) (by omega)
    have hG := dval_lt (l := l.take i) (fun b hb => hd b (List.mem_of_mem_take hb))
    rw [List.length_take, Nat.min_eq_left hi] at hG
    have hS9 : S ≤ 100000000 := by have := hSG.out; omega
    have hG9 : G < 100000000 := by have := hSG.out; omega
    have HT : Hid (S * 10 = 10 ^ (i + 1) ∧ G * 10 + (l[i].toNat - 48) = dval (l.take (i + 1))) := by
     unfold Hid
     rw [Nat.pow_succ, hSG.out.1, hSG.out.2, List.take_succ_eq_append_getElem hlt, dval_snoc]
     exact ⟨rfl, rfl⟩
    have his : i < s.size := by omega
    have hse : s[i].toNat = l[i].toNat := by rw [hb]
    generalize l[i].toNat = D at *
    clear hp hG hb
    go_wp2
    refine ⟨⟨i + 1, S * 10, G * 10 + (D - 48), by omega, by go_num, ?_, ?_, HT, trivial⟩, by simp [intOf]; omega⟩
    · congr 1
    · congr 1; omega
  · obtain rfl : i = l.length := by omega
    have hSG' := hSG.out
    rw [List.take_length] at hSG'
    have hp : 10 ^ l.length ≤ 10 ^ 9 := Nat.pow_le_pow_right (by decide) h9
    have hp0 : 1 ≤ 10 ^ l.length := Nat.one_le_pow _ _ (by decide)
    have hG := dval_lt hd
    have hS9 : 1 ≤ S ∧ S ≤ 1000000000 := by omega
    have hG9 : G < 1000000000 := by omega
    have HE : Hid (S = 10 ^ l.length ∧ G = dval l) := hSG'
    clear hp hp0 hG hSG'
    go_wp2_with fail
    refine (timesLimb_any (S : Int) (G : Int) (by omega) (by omega) (by decide) cx hs hn).mono ?_
    rintro e w2 ⟨rfl, zs, cz, vz, lz, hst, hb⟩
    go_wp2
    go_end0
    refine ⟨rfl, zs, cz, ?_, lz, hst, hb⟩
    rw [vz, HE.out.1, HE.out.2]
    simp

def isNum (l : List UInt8) : Prop := digs l ∧ 0 < l.length
def Tells (l : List UInt8) (e : Ending) : Prop := ∃ b, e = .returned (.bool b) ∧ (b = true ↔ isNum l)

set_option maxRecDepth 100000 in
set_option maxHeartbeats 800000 in
theorem allDigits_any {w : World} (s : ByteArray) (l : List UInt8) (hl : Hid (s.data.toList = l)) (hb : l.length ≤ 1000000000) :
    Calls Tryz.prog 228 #[.string s] w fun e w' => Tells l e ∧ w = w' := by
 have hsz : s.size = l.length := by rw [← hl.out]; rfl
 go_enter Tryz.func228, Tryz.ntmps228
 go_wp2
 go_loopw [6] (fun ii wr => ∃ (i : Nat), i ≤ l.length ∧ ii = .int .i64 i ∧ Hid (digs (l.take i)) ∧ wr = w)
  (fun ii _ => l.length - (intOf ii).toNat)
 case atStart => exact ⟨0, Nat.zero_le _, rfl, fun b hb => by simp at hb, rfl⟩
 case round =>
  obtain ⟨i, hi, rfl, hd, rfl⟩ := hrel
  by_cases hlt : i < l.length
  · have his : i < s.size := by omega
    have hse : s[i].toNat = l[i].toNat := by rw [byte_at hl.out i hlt]
    have HM : Hid (l[i] ∈ l) := List.getElem_mem hlt
    have HT : Hid (48 ≤ l[i].toNat → l[i].toNat ≤ 57 → digs (l.take (i + 1))) := by
     intro h1 h2 b hb
     rw [List.take_succ_eq_append_getElem hlt, List.mem_append] at hb
     rcases hb with hb | hb
     · exact hd.out b hb
     · rw [List.mem_singleton] at hb; subst hb; exact ⟨h1, h2⟩
    have HN : Hid (l[i].toNat < 48 ∨ 57 < l[i].toNat → ¬ isNum l) := by
     intro h hn
     have := hn.1 _ HM.out
     omega
    clear HM
    generalize l[i].toNat = D at *
    have hcs : D < 48 ∨ (¬ D < 48 ∧ 57 < D) ∨ (¬ D < 48 ∧ ¬ 57 < D) := by omega
    rcases hcs with h | ⟨h, h'⟩ | ⟨h, h'⟩
    · have HX : Hid (¬ isNum l) := HN.out (Or.inl h)
      go_wp2
      go_ret
      exact ⟨⟨false, rfl, ⟨(fun e => by cases e), fun e => absurd e HX.out⟩⟩, rfl⟩
    · have HX : Hid (¬ isNum l) := HN.out (Or.inr h')
      go_wp2
      go_ret
      exact ⟨⟨false, rfl, ⟨(fun e => by cases e), fun e => absurd e HX.out⟩⟩, rfl⟩
    · have HX := HT.out (by omega) (by omega)
      have HX2 : Hid (digs (l.take (i + 1))) := HX
      clear HX HT HN
      go_wp2
      exact ⟨⟨i + 1, by omega, by go_num, HX2, trivial⟩, by simp [intOf]; omega⟩
  · obtain rfl : i = l.length := by omega
    have hd2 := hd.out
    rw [List.take_length] at hd2
    have HD : Hid (digs l) := hd2
    clear hd2
    by_cases h0 : 0 < l.length
    · go_wp2
      go_ret
      exact ⟨⟨true, rfl, ⟨fun _ => ⟨HD.out, h0⟩, fun _ => rfl⟩⟩, rfl⟩
    · go_wp2
      go_ret
      exact ⟨⟨false, rfl, ⟨(fun e => by cases e), fun e => absurd e.2 h0⟩⟩, rfl⟩

def Parses (w : World) (l : List UInt8) (e : Ending) (w' : World) : Prop :=
 Below w.heap.size w w' ∧ (isNum l → ∃ zs a c, can zs ∧ val zs = dval l ∧ e = .returned (.tuple #[.slice a zs.length c, .bool true]) ∧ Own w.heap.size w' (.slice a zs.length c) zs) ∧ (¬ isNum l → e = .returned (.tuple #[.slice none 0 0, .bool false]))

theorem extract_list (s : ByteArray) (a b : Nat) : (s.extract a b).data.toList = (s.data.toList.drop a).take (b - a) := by
 rw [ByteArray.data_extract, Array.toList_extract]

def sizeOf' : Value → Nat | .string s => s.size | _ => 0

set_option maxRecDepth 100000 in
set_option maxHeartbeats 1600000 in
theorem parse_any {w : World} (s : ByteArray) (l : List UInt8) (hl : Hid (s.data.toList = l)) (hb : l.length ≤ 100000000) :
    Calls Tryz.prog 215 #[.string s] w fun e w' => Parses w l e w' := by
 have hsz : s.size = l.length := by rw [← hl.out]; rfl
 by_cases hn : isNum l
 · have hO1 : St w.heap.size (w.alloc (.cells #[.slice none 0 0] 267)) w.heap.size 267 [] := ⟨none, 0, heap_alloc_new _ _, own_nil' _ _, Nat.le_refl _, by simp⟩
   have b0 : Below w.heap.size w (w.alloc (.cells #[.slice none 0 0] 267)) := (Below.refl _ _).alloc (Nat.le_refl _) _
   have HN : Hid (isNum l) := hn
   have h0 : 0 < l.length := hn.2
   go_enter Tryz.func215, Tryz.ntmps215
   go_wp2_with fail
   refine (allDigits_any s l hl (by omega)).mono ?_
   rintro e w' ⟨⟨b, rfl, hbi⟩, rfl⟩
   obtain rfl : b = true := hbi.2 hn
   clear hbi hn
   go_wp2
   go_loopw [0] (fun sv wr => ∃ (s' : ByteArray) (d l' : List UInt8) (zs : List Int), sv = .string s' ∧ Hid (s'.data.toList = l') ∧ Hid (l = d ++ l') ∧ 0 < l'.length ∧ l'.length ≤ l.length ∧ can zs ∧ Hid (val zs = dval d) ∧ zs.length + l'.length ≤ l.length ∧ St w.heap.size wr w.heap.size 267 zs ∧ Below w.heap.size w wr)
    (fun sv _ => sizeOf' sv)
   case atStart => exact ⟨s, [], l, [], rfl, hl, rfl, h0, Nat.le_refl _, can_nil, rfl, by simp, hO1, b0⟩
   case round =>
    clear hsz hO1 b0
    obtain ⟨s', d, l', zs, rfl, hl', hdl, h0', hll, cz, hvz, hzl, hst, hbl⟩ := hrel
    have hsz' : s'.size = l'.length := by rw [← hl'.out]; rfl
    have hdig : digs l := HN.out.1
    by_cases h9 : 9 < l'.length
    · have hd9 : digs (l'.take 9) := fun b hb => hdig b (by rw [hdl.out, List.mem_append]; exact Or.inr (List.mem_of_mem_take hb))
      have e9 : Hid ((s'.extract 0 9).data.toList = l'.take 9) := by unfold Hid; rw [extract_list, hl'.out]; simp
      have e9' : Hid ((s'.extract 9 s'.size).data.toList = l'.drop 9) := by
       unfold Hid; rw [extract_list, hl'.out, hsz', List.take_of_length_le (by simp)]
      have hl9 : (l'.take 9).length = 9 := by simp; omega
      have hrd := fun w0 (h0 : St w.heap.size w0 w.heap.size 267 zs) => read_any (s'.extract 0 9) (l'.take 9) e9 hd9 (by omega) cz h0 (by omega)
      clear hdig
      go_wp2_with fail
      refine (hrd _ hst).mono ?_
      rintro e w2 ⟨rfl, us, cu, vu, lu, hst2, hb2⟩
      have HU : Hid (val us = dval (d ++ l'.take 9)) := by
       unfold Hid; rw [vu, hvz.out, dval_append]; simp
      clear vu hrd
      go_wp2
      go_roundw
      case rel => exact ⟨s'.extract 9 s'.size, d ++ l'.take 9, l'.drop 9, us, (by first | rfl | (rw [hsz'])), e9', (by unfold Hid; rw [List.append_assoc, List.take_append_drop]; exact hdl.out), by simp; omega, by simp; omega, cu, HU, (by simp; omega), hst2, hbl.trans hb2⟩
      case measure =>
       simp [sizeOf']
       omega
    · have hd9 : digs l' := fun b hb => hdig b (by rw [hdl.out, List.mem_append]; exact Or.inr hb)
      have hrd := fun w0 (h0 : St w.heap.size w0 w.heap.size 267 zs) => read_any s' l' hl' hd9 (by omega) cz h0 (by omega)
      clear hdig
      go_wp2_with fail
      refine (hrd _ hst).mono ?_
      rintro e w2 ⟨rfl, us, cu, vu, lu, hst2, hb2⟩
      have HU : Hid (val us = dval l) := by
       unfold Hid; rw [vu, hvz.out, hdl.out, dval_append]; simp
      clear vu hrd
      obtain ⟨a3, c3, hbox3, hown3, _, _⟩ := hst2
      have hc3 := cell_of_one hbox3
      go_wp2
      go_ret2
      exact ⟨hbl.trans hb2, fun _ => ⟨us, a3, c3, cu, HU.out, rfl, hown3⟩, fun h => absurd HN.out h⟩
 · go_enter Tryz.func215, Tryz.ntmps215
   go_wp2_with fail
   refine (allDigits_any s l hl (by omega)).mono ?_
   rintro e w' ⟨⟨b, rfl, hbi⟩, rfl⟩
   obtain rfl : b = false := by
    cases b with
    | false => rfl
    | true => exact absurd (hbi.1 rfl) hn
   go_wp2
   go_ret2
   exact ⟨Below.refl _ _, fun h => absurd h hn, fun _ => rfl⟩
theorem p2_pow (b k : Nat) : p2 b ^ k = p2 (b * k) := by unfold p2; rw [Int.pow_mul]

theorem pow_le_pow {x y : Int} (h0 : 0 ≤ x) (h : x ≤ y) (k : Nat) : x ^ k ≤ y ^ k ∧ 0 ≤ x ^ k := by
 induction k with
 | zero => simp
 | succ k ih =>
  rw [Int.pow_succ, Int.pow_succ]
  exact ⟨Int.mul_le_mul ih.1 h h0 (by omega), Int.mul_nonneg ih.2 h0⟩

theorem one_pow' (k : Nat) : (1 : Int) ^ k = 1 := Int.one_pow
theorem zero_pow' (k : Nat) : (0 : Int) ^ k = 0 ∨ (0 : Int) ^ k = 1 := by
 cases k with
 | zero => exact Or.inr rfl
 | succ k => left; rw [Int.pow_succ]; simp

theorem pow_bound (x : Int) (b n M : Nat) (hb : isBits x b) (h : ¬ (2 ≤ b ∧ 32 * M ≤ (b - 1) * n)) (k : Nat) (hk : k ≤ n) : 0 ≤ x ^ k ∧ x ^ k < pw (2 * M + 1) := by
 have p1 : 1 < pw (2 * M + 1) := by rw [pw_succ]; have := pw_pos (2 * M); omega
 rcases hb with ⟨rfl, rfl⟩ | ⟨b1, b2, b3⟩
 · rcases zero_pow' k with h | h <;> rw [h] <;> omega
 · by_cases hb2 : b = 1
   · subst hb2
     have e1 : p2 0 = 1 := rfl
     have e2 : p2 1 = 2 := rfl
     have : x = 1 := by simp only [Nat.sub_self] at b2; omega
     rw [this, one_pow']; omega
   · have hlt : (b - 1) * n < 32 * M := Nat.lt_of_not_le (fun e => h ⟨by omega, e⟩)
     have hx0 : 0 ≤ x := by have := p2_pos (b - 1); omega
     have h1 := pow_le_pow hx0 (Int.le_of_lt b3) k
     rw [p2_pow] at h1
     have h2 : b * k ≤ 2 * ((b - 1) * n) := by
      have h3 : b * k ≤ (2 * (b - 1)) * k := Nat.mul_le_mul_right _ (by omega)
      have h4 : (2 * (b - 1)) * k ≤ (2 * (b - 1)) * n := Nat.mul_le_mul_left _ hk
      have h5 : (2 * (b - 1)) * n = 2 * ((b - 1) * n) := Nat.mul_assoc _ _ _
      omega
     have h5 := p2_mono (j := b * k) (k := 32 * (2 * M)) (by omega)
     rw [← pw_p2] at h5
     have h6 := pw_pos (2 * M)
     rw [pw_succ]; omega

theorem pow_great (x : Int) (b n M : Nat) (hb : isBits x b) (h : 2 ≤ b ∧ 32 * M ≤ (b - 1) * n) : pw M ≤ x ^ n := by
 rcases hb with ⟨_, h0⟩ | ⟨b1, b2, b3⟩
 · omega
 · have h1 := pow_le_pow (Int.le_of_lt (p2_pos (b - 1))) b2 n
   rw [p2_pow] at h1
   have h2 := p2_mono (j := 32 * M) (k := (b - 1) * n) h.2
   rw [pw_p2]; omega

theorem can_len_pw {zs : List Int} (h : can zs) (M : Nat) : (zs.length ≤ M ↔ val zs < pw M) := by
 constructor
 · intro hl
   have h1 := (val_bound h.1).2
   have h2 := pw_mono hl
   omega
 · intro hv
   by_cases hl : zs.length ≤ M
   · exact hl
   · have h1 := can_low h (by omega)
     have h2 := pw_mono (j := M) (k := zs.length - 1) (by omega)
     omega

set_option maxRecDepth 100000 in
set_option maxHeartbeats 1600000 in
theorem tooGreat_any {B : Nat} {w : World} {v : Value} {xs : List Int} (n M : Nat) (h : Rd B w v xs) (hl : xs.length ≤ 17592186044415) (hn : n < 9223372036854775808) (hM : M ≤ 2147483647) :
    Calls Tryz.prog 232 #[v, .int .i64 n, .int .i64 M] w fun e w' => ∃ b : Nat, isBits (val xs) b ∧ e = .returned (.bool (decide (2 ≤ b ∧ 32 * M ≤ (b - 1) * n))) ∧ w' = w := by
 go_enter Tryz.func232, Tryz.ntmps232
 go_wp2_with fail
 refine (bits_any h hl).mono ?_
 rintro e w' ⟨b, rfl, hb, lb, rfl⟩
 have HB : Hid (isBits (val xs) b) := hb
 clear hb
 by_cases h2 : b < 2
 · go_wp2
   go_ret
   exact ⟨b, HB.out, ret_bool (decide_eq_false (fun h => by omega)).symm, rfl⟩
 · obtain ⟨c, rfl⟩ : ∃ c, b = c + 1 := ⟨b - 1, by omega⟩
   have e1 : (((c + 1 : Nat) : Int) - 1) = (c : Int) := by omega
   have hm := Tryz.bits_Mul64 c n (by omega) (by omega) w
   generalize hH : c * n / 18446744073709551616 = hi at *
   generalize hL : c * n % 18446744073709551616 = lo at *
   have HH : Hid (c * n / 18446744073709551616 = hi) := hH
   have HL : Hid (c * n % 18446744073709551616 = lo) := hL
   have blo : lo < 18446744073709551616 := by omega
   clear hH hL
   go_wp2_with fail
   refine hm.mono ?_
   rintro e w' ⟨rfl, hw⟩
   subst hw
   by_cases hhi : 0 < hi
   · go_wp2
     go_ret
     refine ⟨c + 1, HB.out, ret_bool (decide_eq_true ⟨by omega, ?_⟩).symm, rfl⟩
     have := HH.out
     show 32 * M ≤ c * n
     omega
   · obtain rfl : hi = 0 := by omega
     go_wp2
     go_ret
     refine ⟨c + 1, HB.out, ret_bool ?_, rfl⟩
     have h3 := HH.out
     have h4 := HL.out
     show decide (32 * min (M : Int) 2147483647 ≤ (lo : Int)) = decide (2 ≤ c + 1 ∧ 32 * M ≤ c * n)
     rw [decide_eq_decide]
     omega

def shr' (n j : Nat) : Nat := n / 2 ^ j
theorem shr'_zero (n : Nat) : shr' n 0 = n := by unfold shr'; simp
theorem shr'_step (n j : Nat) : shr' n j = 2 * shr' n (j + 1) + shr' n j % 2 := by
 unfold shr'
 rw [Nat.pow_succ, ← Nat.div_div_eq_div_mul]
 omega
theorem shr'_le (n j : Nat) : shr' n j ≤ n := by unfold shr'; exact Nat.div_le_self _ _

theorem pow_double (x : Int) (k m : Nat) (h : m = 2 * k) : x ^ k * x ^ k = x ^ m := by
 subst h; rw [← Int.pow_add]; congr 1; omega
theorem pow_more (x : Int) (k m : Nat) (h : m = k + 1) : x ^ k * x = x ^ m := by subst h; rw [Int.pow_succ]

theorem bitLen_63 (n : Nat) (h : n < 9223372036854775808) : Lib.bitLen n ≤ 63 ∧ shr' n (Lib.bitLen n) = 0 := by
 by_cases h0 : n = 0
 · subst h0; exact ⟨by decide, by unfold shr'; simp⟩
 · obtain ⟨h1, h2, h3⟩ := Lib.bitLenAux_bounds 64 n (Nat.lt_of_lt_of_le h (by decide)) h0
   have e : Lib.bitLenAux 64 n = Lib.bitLen n := rfl
   rw [e] at h1 h2 h3
   refine ⟨?_, Nat.div_eq_of_lt h3⟩
   by_cases hl : Lib.bitLen n ≤ 63
   · exact hl
   · have h4 : 2 ^ 63 ≤ 2 ^ (Lib.bitLen n - 1) := Nat.pow_le_pow_right (by omega) (by omega)
     have h5 : (2 : Nat) ^ 63 = 9223372036854775808 := by decide
     omega

theorem and_one_i64 (x : Int) (h0 : 0 ≤ x) (h1 : x < 9223372036854775808) : bits .and .i64 x 1 = x % 2 :=
 bits_mask .i64 63 (by decide) (fun n a b => by rw [IntKind.wrap_i64]; omega) 1 (by decide) x h0 (by omega)

theorem bit_at (n j : Nat) (h : n < 9223372036854775808) : bits .and .i64 ((n : Int) / 2 ^ j) 1 = ((shr' n j % 2 : Nat) : Int) := by
 have e : (n : Int) / 2 ^ j = ((shr' n j : Nat) : Int) := by unfold shr'; simp
 have := shr'_le n j
 rw [e, and_one_i64 _ (by omega) (by omega)]
 omega

set_option maxRecDepth 100000 in
set_option maxHeartbeats 3200000 in
theorem power_any {Br : Nat} {w : World} {v : Value} {xs : List Int} (n M : Nat) (h : Rd Br w v xs) (hBr : Br ≤ w.heap.size) (hl : xs.length ≤ 8796093022207) (hn : n < 9223372036854775808) (hM : M ≤ 2147483647) :
    Calls Tryz.prog 217 #[v, .int .i64 n, .int .i64 M] w fun e w' => Below w.heap.size w w' ∧ (pw M ≤ val xs ^ n → e = .returned (.tuple #[.slice none 0 0, .bool false])) ∧
     (val xs ^ n < pw M → ∃ zs a c, can zs ∧ val zs = val xs ^ n ∧ e = .returned (.tuple #[.slice a zs.length c, .bool true]) ∧ Own w.heap.size w' (.slice a zs.length c) zs) := by
 have hn0 : decide ((n : Int) < 0) = false := by simp
 go_enter Tryz.func217, Tryz.ntmps217
 go_wp2_with fail
 refine (tooGreat_any n M h (by omega) hn hM).mono ?_
 rintro e w' ⟨b, hb, rfl, hw⟩
 have hw := hw.symm
 subst hw
 by_cases ht : 2 ≤ b ∧ 32 * M ≤ (b - 1) * n
 · have hg := pow_great _ _ _ _ hb ht
   have HG : Hid (pw M ≤ val xs ^ n) := hg
   rw [decide_eq_true ht]
   clear hg ht hb
   go_wp2
   go_ret2
   exact ⟨Below.refl _ _, fun _ => rfl, fun h => by have := HG.out; omega⟩
 · have hbd := pow_bound _ _ _ _ hb ht
   have HBD : Hid (∀ k, k ≤ n → 0 ≤ val xs ^ k ∧ val xs ^ k < pw (2 * M + 1)) := hbd
   rw [decide_eq_false ht]
   clear hbd ht hb
   go_wp2_with fail
   refine (beginAt_any 1 (by omega) (by omega) _).mono ?_
   intro e w1 hm1
   rw [one_limbs] at hm1
   obtain ⟨a, c, rfl, ho, hb⟩ := hm1
   have hz := hb.size
   have hlen := Tryz.bits_Len (n : Int) (w1.alloc (.cells #[.slice a 1 c] 270)) (by omega) (by omega)
   obtain ⟨hbl, hb0⟩ := bitLen_63 n (by omega)
   rw [Int.toNat_natCast] at hlen
   generalize Lib.bitLen n = L at *
   have HB0 : Hid (shr' n L = 0) := hb0
   clear hb0
   go_wp2_with fail
   refine hlen.mono ?_
   rintro e w2 ⟨rfl, hw2⟩
   have hw2 := hw2.symm
   subst hw2
   go_wp2
   go_loopw [9] (fun s wr => ∃ (j : Nat) (zs : List Int) (a : Option Addr) (c : Nat), j ≤ L ∧ s = .int .i64 ((j : Int) - 1) ∧ can zs ∧ Hid (val zs = val xs ^ (shr' n j)) ∧ Box wr w1.heap.size 270 (.slice a zs.length c) ∧ Own w.heap.size wr (.slice a zs.length c) zs ∧ Below w.heap.size w wr)
    (fun s _ => (intOf s + 1).toNat)
   case atStart => exact ⟨L, [1], a, c, Nat.le_refl _, by go_num, can_one, by unfold Hid; rw [HB0.out]; simp [val], heap_alloc_new _ _, ho.alloc _, hb.alloc (by omega) _⟩
   case round =>
    obtain ⟨j, zs, a2, c2, hjL, rfl, hcan, hval, hbox, hown, hbl2⟩ := hrel
    have hc2 := cell_of_one hbox
    have hsz := hbl2.size
    have hzl : zs.length ≤ 2 * M + 1 := (can_len_pw hcan _).2 (by rw [hval.out]; exact (HBD.out _ (shr'_le n j)).2)
    have hlt := lt_of_block hbox
    cases j with
    | zero =>
     have hvz := hval.out
     rw [shr'_zero] at hvz
     have HVZ : Hid (val zs = val xs ^ n) := hvz
     have hlp := can_len_pw hcan M
     rw [hvz] at hlp
     have HLP : Hid (zs.length ≤ M ↔ val xs ^ n < pw M) := hlp
     clear hvz hlp
     by_cases hm : zs.length ≤ M
     · go_wp2
       go_ret2
       have := HLP.out.1 hm
       exact ⟨hbl2, fun h => by omega, fun _ => ⟨zs, a2, c2, hcan, HVZ.out, rfl, hown⟩⟩
     · go_wp2
       go_ret2
       have := HLP.out.2
       exact ⟨hbl2, fun _ => rfl, fun h => absurd (this h) hm⟩
    | succ j =>
     have ej : ((j + 1 : Nat) : Int) - 1 = (j : Int) := by omega
     rw [ej]
     clear ej
     have hrd := h.below (hbl2.mono hBr)
     have hst := shr'_step n j
     have hz2 := hown.rd
     go_wp2_with fail
     refine (times_any hbox hown hz2 (Nat.le_refl _) (by omega)).mono ?_
     rintro e w3 ⟨us, hcu, hvu, hlu, rfl, a3, c3, hbox3, hown3, hg3⟩
     have hbit := bit_at n j hn
     rw [hval.out, pow_double _ (shr' n (j + 1)) (2 * shr' n (j + 1)) rfl] at hvu
     have hsz3 := hg3.size
     have hb3 : Below w.heap.size w w3 := hbl2.grown hg3 hsz (fun q hq => by cases hq; exact hz)
     have ho3 := hown3.mono (base' := w.heap.size) hsz
     by_cases hodd : shr' n j % 2 = 0
     · rw [hodd] at hbit hst
       have HVU : Hid (val us = val xs ^ shr' n j) := by unfold Hid; rw [hvu, hst]; rfl
       clear hvu hst
       go_wp2
       go_roundw
       case rel => exact ⟨j, us, a3, c3, by omega, by go_num, hcu, HVU, hbox3, ho3, hb3⟩
       case measure => simp [intOf]
     · have hodd' : shr' n j % 2 = 1 := by omega
       rw [hodd'] at hbit hst
       have HVU : Hid (val us * val xs = val xs ^ shr' n j) := by unfold Hid; rw [hvu]; exact pow_more _ _ _ hst
       have hr3 := h.below (hb3.mono hBr)
       clear hvu hst hodd
       go_wp2_with fail
       refine (meant_rd hr3).mono ?_
       rintro e w4 ⟨rfl, rfl⟩
       go_wp2_with fail
       refine (times_any hbox3 ho3 hr3.meant (by omega) (by have := tr_length_le xs; omega)).mono ?_
       rintro e w4 ⟨ts, hct, hvt, hlt', rfl, a4, c4, hbox4, hown4, hg4⟩
       rw [val_tr, HVU.out] at hvt
       have HVT : Hid (val ts = val xs ^ shr' n j) := hvt
       clear hvt
       go_wp2
       go_roundw
       case rel => exact ⟨j, ts, a4, c4, by omega, by go_num, hct, HVT, hbox4, hown4.mono (by omega), hb3.grown hg4 (by omega) (fun q hq => by cases hq; exact hz)⟩
       case measure => simp [intOf]
def errOf (n : Int) : Ending := .returned (.tuple #[.agg #[.bool false, .slice none 0 0, .slice none 0 0], .int .i64 n])

set_option maxRecDepth 100000 in
set_option maxHeartbeats 3200000 in
theorem make_zero {B1 B2 : Nat} {w : World} {v1 v2 : Value} {xs ys : List Int} (b : Bool) (h1 : Rd B1 w v1 xs) (b1 : B1 ≤ w.heap.size) (h2 : Rd B2 w v2 ys) (b2 : B2 ≤ w.heap.size) (n1 : xs.length ≤ 10000) (n2 : ys.length ≤ 10000) (hy : val ys = 0) :
    Calls Tryz.prog 216 #[.bool b, v1, v2] w fun e w' => Below w.heap.size w w' ∧ e = errOf 22 := by
 have cv := tr_can h2.lim
 have hvl : (tr ys).length = 0 := by rw [can_zero cv, val_tr]; exact hy
 have hvl' : ¬ 0 < (tr ys).length := by omega
 have hvb : (((tr ys).length : Int) == 0) = true := by rw [hvl]; rfl
 clear hvl hy cv
 have hR := box3_new w (.bool false) (.slice none 0 0) (.slice none 0 0) 110
 have b0 := below_alloc w (.cells #[.bool false, .slice none 0 0, .slice none 0 0] 110)
 have s0 : w.heap.size < (w.alloc (.cells #[.bool false, .slice none 0 0, .slice none 0 0] 110)).heap.size := by simp
 replace h1 := h1.below (b0.mono b1)
 replace h2 := h2.below (b0.mono b2)
 go_enter Tryz.func216, Tryz.ntmps216
 go_wp2_with fail
 generalize hA : w.alloc (.cells #[.bool false, .slice none 0 0, .slice none 0 0] 110) = wR at *
 clear hA
 refine (trim_rd h1 (by omega)).mono ?_
 rintro e wa ⟨a1, c1, rfl, o1, ba⟩
 have sa := ba.size
 go_wp2_with fail
 refine (trim_rd (h2.below (ba.mono (by omega))) (by omega)).mono ?_
 rintro e wb ⟨a2, c2, rfl, o2, bb⟩
 have bw : Below wR.heap.size wR wb := ba.trans (bb.mono sa)
 have hR2 := hR.below bw s0
 generalize (tr ys).length = L at *
 have q0 := hR2.c0
 have q1 := hR2.c1
 have q2 := hR2.c2
 have p0 := hR2.f0
 have p1 := hR2.f1
 have p2 := hR2.f2
 go_wp2
 have hR3 := hR2.set (.bool false) (.slice none 0 0) (.slice none 0 0)
 have r0 := hR3.c0
 have r1 := hR3.c1
 have r2 := hR3.c2
 refine bodyPost_ret (v := .tuple #[.agg #[.bool false, .slice none 0 0, .slice none 0 0], .int .i64 22]) (by simp [results, Tryz.results216, go_sem, r0, r1, r2]) rfl ?_
 exact ⟨Below.set3 (b0.trans (bw.mono (by omega))) (Nat.le_refl _) _ _ _, rfl⟩

theorem ten_pw (n : Nat) : (((10 ^ n : Nat)) : Int) ≤ pw n := by
 induction n with
 | zero => decide
 | succ n ih =>
  rw [pw_succ, Nat.pow_succ, Int.natCast_mul]
  have h1 : (0 : Int) ≤ ((10 ^ n : Nat) : Int) := Int.natCast_nonneg _
  have := pw_pos n
  generalize ((10 ^ n : Nat) : Int) = T at *
  omega
theorem ten_lt (n : Nat) (h : 0 < n) : (((10 ^ n : Nat)) : Int) < pw n := by
 obtain ⟨k, rfl⟩ : ∃ k, n = k + 1 := ⟨n - 1, by omega⟩
 rw [pw_succ, Nat.pow_succ, Int.natCast_mul]
 have h1 := ten_pw k
 have := pw_pos k
 generalize ((10 ^ k : Nat) : Int) = T at *
 omega

theorem val_ten (n : Nat) : val [(10 : Int)] ^ n = ((10 ^ n : Nat) : Int) := by
 have h10 : val [(10 : Int)] = 10 := by decide
 rw [h10, Int.natCast_pow]
 rfl

theorem prod_big {w : World} {Lb : Nat} {v1 v2 : Value} {x1 x2 : List Int} (hm : Many w Lb 2 [v1, v2] [x1, x2]) (l1 : x1.length ≤ 100000) (l2 : x2.length ≤ 100000) :
    Calls Tryz.prog 219 #[.slice (some ⟨Lb, 0, none⟩) 2 2] w fun e w' => ∃ zs, can zs ∧ val zs = val x1 * val x2 ∧ zs.length ≤ 1 + (x1.length + x2.length) ∧ Makes w e w' zs := by
 refine (product_any hm (by omega) (by simp [sumL]; omega)).mono ?_
 rintro e w' ⟨zs, cz, vz, lz, hm⟩
 exact ⟨zs, cz, by rw [vz]; simp [prodV], by simpa [sumL] using lz, hm⟩

theorem Parses.form {w w' : World} {l : List UInt8} {e : Ending} (h : Parses w l e w') : Below w.heap.size w w' ∧ ∃ (xs : List Int) (a : Option Addr) (c : Nat) (ok : Bool), e = .returned (.tuple #[.slice a xs.length c, .bool ok]) ∧ Own w.heap.size w' (.slice a xs.length c) xs ∧ xs.length ≤ l.length ∧ Hid ((ok = true ↔ isNum l) ∧ (ok = true → can xs ∧ val xs = (dval l : Int))) := by
 refine ⟨h.1, ?_⟩
 by_cases hn : isNum l
 · obtain ⟨zs, a, c, cz, vz, he, ho⟩ := h.2.1 hn
   refine ⟨zs, a, c, true, he, ho, ?_, ⟨fun _ => hn, fun _ => rfl⟩, fun _ => ⟨cz, vz⟩⟩
   rw [can_len_pw cz, vz]
   have h1 := dval_lt hn.1
   have h2 := ten_lt l.length hn.2
   omega
 · exact ⟨[], none, 0, false, h.2.2 hn, own_nil' _ _, Nat.zero_le _, ⟨(fun e => by cases e), fun e => absurd e hn⟩, fun e => by cases e⟩

theorem runeCount_size (s : ByteArray) : ∀ fuel pos, s.size ≤ pos + fuel → s.size ≤ pos + 4 * Lib.runeCountFrom s fuel pos
 | 0, pos, h => by omega
 | f + 1, pos, h => by
  unfold Lib.runeCountFrom
  by_cases hp : pos < s.size
  · rw [if_pos hp]
    have hw : (Utf8.decode s pos).2 ≤ 4 := by
     simp only [Utf8.decode]
     repeat' split
     all_goals simp
    have h1 := Lib.decode_width_pos s pos hp
    have ih := runeCount_size s f (pos + (Utf8.decode s pos).2) (by omega)
    omega
  · omega

def PartsMake (w : World) (B : Bool) (m : Int) (A H : List UInt8) (e : Ending) (w' : World) : Prop :=
 ((¬ isNum A ∨ (¬ m = 0 ∧ ¬ isNum H)) ∧ e = errOf 22) ∨ (isNum A ∧ m = 0 ∧ RMakes w (sg B (dval A)) 1 e w') ∨ (isNum A ∧ isNum H ∧ m = 114 ∧ dval H = 0 ∧ e = errOf 22) ∨
 (isNum A ∧ isNum H ∧ m = 114 ∧ 0 < dval H ∧ RMakes w (sg B (dval A)) (dval H) e w') ∨ (isNum A ∧ isNum H ∧ m = 46 ∧ RMakes w (sg B ((dval A * 10 ^ H.length + dval H : Nat) : Int)) ((10 ^ H.length : Nat) : Int) e w')
def RParses (w : World) (s : ByteArray) (e : Ending) (w' : World) : Prop :=
 Below w.heap.size w w' ∧ ((700 < Lib.runeCount s ∧ e = errOf 8) ∨ (¬ 700 < Lib.runeCount s ∧ ∃ B m A H, Cuts s.data.toList B m A H ∧ PartsMake w B m A H e w'))

theorem Cuts.mark {l A H : List UInt8} {B : Bool} {m : Int} (h : Cuts l B m A H) : m = 0 ∨ m = 46 ∨ m = 114 := by
 obtain ⟨_, ⟨h, _⟩ | ⟨x, hx, h, _⟩⟩ := h
 · exact Or.inl h
 · unfold isM at hx; omega
set_option maxRecDepth 100000 in
set_option maxHeartbeats 16000000 in
theorem parse_rat (s : ByteArray) (w : World) : Calls Tryz.prog 202 #[.string s] w fun e w' => RParses w s e w' := by
 have hR := box3_new w (.bool false) (.slice none 0 0) (.slice none 0 0) 110
 have b0 := below_alloc w (.cells #[.bool false, .slice none 0 0, .slice none 0 0] 110)
 have s0 : w.heap.size < (w.alloc (.cells #[.bool false, .slice none 0 0, .slice none 0 0] 110)).heap.size := by simp
 go_enter Tryz.func202, Tryz.ntmps202
 go_wp2_with fail
 generalize hA : w.alloc (.cells #[.bool false, .slice none 0 0, .slice none 0 0] 110) = wR at *
 clear hA
 refine (tooLong_any s _).mono ?_
 rintro e wa ⟨rfl, ba⟩
 have sa := ba.size
 have hRa := hR.below ba s0
 have bwa : Below w.heap.size w wa := b0.trans (ba.mono (by omega))
 by_cases h7 : 700 < Lib.runeCount s
 · have H7 : Hid (700 < Lib.runeCount s) := h7
   rw [decide_eq_true h7]
   clear h7
   have q0 := hRa.c0
   have q1 := hRa.c1
   have q2 := hRa.c2
   have p0 := hRa.f0
   have p1 := hRa.f1
   have p2 := hRa.f2
   go_wp2
   have hR3 := hRa.set (.bool false) (.slice none 0 0) (.slice none 0 0)
   have r0 := hR3.c0
   have r1 := hR3.c1
   have r2 := hR3.c2
   refine bodyPost_ret (v := .tuple #[.agg #[.bool false, .slice none 0 0, .slice none 0 0], .int .i64 8]) (by simp [results, Tryz.results202, go_sem, r0, r1, r2]) rfl ?_
   exact ⟨Below.set3 bwa (Nat.le_refl _) _ _ _, Or.inl ⟨H7.out, rfl⟩⟩
 · have H7 : Hid (¬ 700 < Lib.runeCount s) := h7
   have hsz : s.size ≤ 2800 := by
    have := runeCount_size s s.size 0 (by omega)
    unfold Lib.runeCount at h7
    omega
   rw [decide_eq_false h7]
   clear h7
   go_wp2_with fail
   refine (cut_any s _ (by omega)).mono ?_
   rintro e wb ⟨bb, B, m, A, H, rfl, HC, lA, lH⟩
   have sb := bb.size
   have hmk : m = 0 ∨ m = 46 ∨ m = 114 := HC.out.mark
   have hRb := hRa.below bb (by omega)
   have bwb : Below w.heap.size w wb := bwa.trans (bb.mono (by omega))
   have hV := box4_new wb (.bool B) (.int .i32 m) (.string A) (.string H) 258
   have bc := below_alloc wb (.cells #[.bool B, .int .i32 m, .string A, .string H] 258)
   have sc : wb.heap.size < (wb.alloc (.cells #[.bool B, .int .i32 m, .string A, .string H] 258)).heap.size := by simp
   have k2 := hV.c2
   have lA' : A.data.toList.length = A.size := by simp
   have lH' : H.data.toList.length = H.size := by simp
   go_wp2_with fail
   generalize hA : wb.alloc (.cells #[.bool B, .int .i32 m, .string A, .string H] 258) = wV at *
   clear hA k2
   have hRV := hRb.below bc (by omega)
   have bwV : Below w.heap.size w wV := bwb.trans (bc.mono (by omega))
   refine (parse_any A A.data.toList rfl (by omega)).mono ?_
   intro e wc hpc
   obtain ⟨bd, xs, a1, c1, ok1, rfl, o1, lx, HX⟩ := hpc.form
   clear hpc
   have sd := bd.size
   have hVc := hV.below bd sc
   have hRc := hRV.below bd (by omega)
   have k3 := hVc.c3
   go_wp2_with fail
   clear k3
   refine (parse_any H H.data.toList rfl (by omega)).mono ?_
   intro e wd hpd
   obtain ⟨be, ys, a2, c2, ok2, rfl, o2, ly, HY⟩ := hpd.form
   clear hpd
   have se := be.size
   have hVd := hVc.below be (by omega)
   have hRd := hRc.below be (by omega)
   have bwd : Below w.heap.size w wd := (bwV.trans (bd.mono (by omega))).trans (be.mono (by omega))
   have o1d := o1.below be (Nat.le_refl _)
   have k0 := hVd.c0
   have k1 := hVd.c1
   have k3 := hVd.c3
   clear hRV hRc hV hVc hRa hRb hR o1
   cases ok1 with
   | false =>
    have HN : Hid (¬ isNum A.data.toList) := fun h => by have := HX.out.1.2 h; cases this
    have q0 := hRd.c0
    have q1 := hRd.c1
    have q2 := hRd.c2
    have p0 := hRd.f0
    have p1 := hRd.f1
    have p2 := hRd.f2
    go_wp2
    have hR3 := hRd.set (.bool false) (.slice none 0 0) (.slice none 0 0)
    have r0 := hR3.c0
    have r1 := hR3.c1
    have r2 := hR3.c2
    refine bodyPost_ret (v := .tuple #[.agg #[.bool false, .slice none 0 0, .slice none 0 0], .int .i64 22]) (by simp [results, Tryz.results202, go_sem, r0, r1, r2]) rfl ?_
    exact ⟨Below.set3 bwd (Nat.le_refl _) _ _ _, Or.inr ⟨H7.out, B, m, _, _, HC.out, Or.inl ⟨Or.inl HN.out, rfl⟩⟩⟩
   | true =>
    have HA : Hid (isNum A.data.toList ∧ can xs ∧ val xs = (dval A.data.toList : Int)) := ⟨HX.out.1.1 rfl, HX.out.2 rfl⟩
    clear HX
    rcases hmk with rfl | hmk
    · have hcells : ∀ {w' : World}, Below wd.heap.size wd w' → w'.cell? ⟨wb.heap.size, 0, none⟩ = some (.bool B) := fun hb => (hVd.below hb (by omega)).c0
      have hVR : wb.heap.size ≠ w.heap.size := by omega
      go_wp2
      go_region_held3 (fun w' => w'.cell? ⟨wb.heap.size, 0, none⟩ = some (.bool B))
       (first | (go_keep; done) | exact tw | exact tw2 | exact (((hVf.other (p := ⟨w.heap.size, 0, none⟩) (by exact hVR.symm) _).other (p := ⟨w.heap.size, 1, none⟩) (by exact hVR.symm) _).other (p := ⟨w.heap.size, 2, none⟩) (by exact hVR.symm) _).c0)
       (first
        | (go_at_call 89; refine (one_any _).mono ?_; intro e we hm; obtain ⟨x2, y2, rfl, o3, bf⟩ := Makes.undrew hm; have sf := bf.size; have tw := hcells bf)
        | (go_at_call 216; refine (make_any B (sg B (dval A.data.toList)) (o1d.below bf (Nat.le_refl _)).rd (Nat.le_refl _) o3.rd (Nat.le_refl _) (by omega) (by simp) (by decide) (by rw [HA.out.2.2])).mono ?_; intro e wf hm6; obtain ⟨bm6, b6, x5, n5, y5, x6, n6, y6, err, rfl, hform⟩ := hm6.form; have bPf : Below wd.heap.size wd wf := bf.trans (bm6.mono sf); have tw2 := hcells bPf; have hVf := hVd.below bPf (by omega); have hRf := hRd.below bPf (by omega); have q0 := hRf.c0; have q1 := hRf.c1; have q2 := hRf.c2; have p0 := hRf.f0; have p1 := hRf.f1; have p2 := hRf.f2))
      all_goals
       go_wp2
       have hR3 := hRf.set (.bool b6) (.slice x5 n5 y5) (.slice x6 n6 y6)
       have r0 := hR3.c0
       have r1 := hR3.c1
       have r2 := hR3.c2
       refine bodyPost_ret (v := .tuple #[.agg #[.bool b6, .slice x5 n5 y5, .slice x6 n6 y6], .int .i64 err]) (by simp [results, Tryz.results202, go_sem, r0, r1, r2]) rfl ?_
       have hfin := rform_done bwd (Nat.le_refl _) (by omega) bPf (hform_mono sf hform)
       have hv1 : val [(1 : Int)] = 1 := by decide
       rw [hv1] at hfin
       exact ⟨hfin.1, Or.inr ⟨H7.out, B, 0, _, _, HC.out, Or.inr (Or.inl ⟨HA.out.1, rfl, hfin⟩)⟩⟩
    · have hm0 : (m == 0) = false := by rw [beq_eq_false_iff_ne]; omega
      have hmne : Hid (¬ m = 0) := by unfold Hid; omega
      cases ok2 with
      | false =>
       have HN : Hid (¬ isNum H.data.toList) := fun h => by have := HY.out.1.2 h; cases this
       have q0 := hRd.c0
       have q1 := hRd.c1
       have q2 := hRd.c2
       have p0 := hRd.f0
       have p1 := hRd.f1
       have p2 := hRd.f2
       go_wp2
       have hR3 := hRd.set (.bool false) (.slice none 0 0) (.slice none 0 0)
       have r0 := hR3.c0
       have r1 := hR3.c1
       have r2 := hR3.c2
       refine bodyPost_ret (v := .tuple #[.agg #[.bool false, .slice none 0 0, .slice none 0 0], .int .i64 22]) (by simp [results, Tryz.results202, go_sem, r0, r1, r2]) rfl ?_
       exact ⟨Below.set3 bwd (Nat.le_refl _) _ _ _, Or.inr ⟨H7.out, B, m, _, _, HC.out, Or.inl ⟨Or.inr ⟨hmne.out, HN.out⟩, rfl⟩⟩⟩
      | true =>
       have HB : Hid (isNum H.data.toList ∧ can ys ∧ val ys = (dval H.data.toList : Int)) := ⟨HY.out.1.1 rfl, HY.out.2 rfl⟩
       clear HY
       rcases hmk with rfl | rfl
       · have h0H : 0 < H.size := by have := HB.out.1.2; omega
         have hcells : ∀ {w' : World}, Below wd.heap.size wd w' → w'.cell? ⟨wb.heap.size, 0, none⟩ = some (.bool B) ∧ w'.cell? ⟨wb.heap.size, 3, none⟩ = some (.string H) := fun hb => ⟨(hVd.below hb (by omega)).c0, (hVd.below hb (by omega)).c3⟩
         have hVR : wb.heap.size ≠ w.heap.size := by omega
         go_wp2
         go_region_held3 (fun w' => w'.cell? ⟨wb.heap.size, 0, none⟩ = some (.bool B) ∧ w'.cell? ⟨wb.heap.size, 3, none⟩ = some (.string H))
          (first | (go_keep; done) | exact tw | exact tw2)
          (first
           | (go_at_call 88; refine (of_any 10 (by omega) (by omega) _).mono ?_; intro e we hm; rw [of_small 10 (by omega) (by omega)] at hm; obtain ⟨x3, y3, rfl, o3, bf⟩ := Makes.undrew hm; have sf := bf.size; have tw := hcells bf)
           | (go_at_call 217; refine (power_any H.size H.size o3.rd (Nat.le_refl _) (by simp) (by omega) (by omega)).mono ?_; rintro e wf ⟨bg, _, hpw⟩; obtain ⟨zs, a4, c4, cz, vz, rfl, o4⟩ := hpw (by rw [val_ten]; exact ten_lt H.size h0H); rw [val_ten] at vz; have HZ : Hid (val zs = ((10 ^ H.size : Nat) : Int)) := vz; clear vz; have lz : zs.length ≤ H.size := (by rw [can_len_pw cz, HZ.out]; exact ten_lt H.size h0H); have sg1 := bg.size; have bPg : Below wd.heap.size wd wf := bf.trans (bg.mono sf); have tw2 := hcells bPg))
         all_goals
          have o1f := (o1d.below bPg (Nat.le_refl _)).rd
          have o2f := (o2.below bPg (Nat.le_refl _)).rd
          have o4f := o4.rd
          have hVf := hVd.below bPg (by omega)
          have hRf := hRd.below bPg (by omega)
          have sF : wd.heap.size ≤ wf.heap.size := bPg.size
          have hcf : ∀ {w' : World}, Below wf.heap.size wf w' → w'.cell? ⟨wb.heap.size, 0, none⟩ = some (.bool B) := fun hb => (hVf.below hb (by omega)).c0
          have hmA := many2 (w := wf.drew) (B1 := wf.heap.size) (B2 := wf.heap.size) (show Rd _ wf.drew _ _ from o1f) (show Rd _ wf.drew _ _ from o4f) (Nat.le_refl _) (Nat.le_refl _)
          clear tw tw2 k0 k1 k3 hcells
          have k0 := hVf.c0
          go_wp2
          go_region_held3 (fun w' => w'.cell? ⟨wb.heap.size, 0, none⟩ = some (.bool B))
           (first | (go_keep; done) | exact tw | exact tw2 | exact tw3 | exact hcf (Below.alloc bh sh _) | exact (((hVi.other (p := ⟨w.heap.size, 0, none⟩) (by exact hVR.symm) _).other (p := ⟨w.heap.size, 1, none⟩) (by exact hVR.symm) _).other (p := ⟨w.heap.size, 2, none⟩) (by exact hVR.symm) _).c0)
           (first
            | (go_at_call 219; refine (prod_big (v1 := .slice a1 xs.length c1) (v2 := .slice a4 zs.length c4) (x1 := xs) (x2 := zs) (by exact hmA) (by omega) (by omega)).mono ?_; rintro e wg ⟨us, cu, vu, lu, hmu⟩; obtain ⟨a5, c5, rfl, o5, bh⟩ := Makes.undrew (Makes.alloc (w := wf.drew) (o := (.cells #[.slice a1 xs.length c1, .slice a4 zs.length c4] 108)) hmu); have sh := bh.size; have tw := hcf bh)
            | (go_at_call 218; refine (sum2 o5.rd (o2f.below bh) (Nat.le_refl _) (by omega) (by omega) (by omega)).mono ?_; rintro e wh ⟨ts, ct, vt, lt', a6, c6, rfl, o6, bi⟩; have si := bi.size; have bfi : Below wf.heap.size wf wh := bh.trans (bi.mono sh); have tw2 := hcf bfi)
            | (go_at_call 216; refine (make_any B (sg B ((dval A.data.toList * 10 ^ H.size + dval H.data.toList : Nat) : Int)) o6.rd (Nat.le_refl _) (o4f.below bfi) bfi.size (by omega) (by omega) (by rw [HZ.out]; exact Int.natCast_pos.2 (Nat.pow_pos (by decide))) (by rw [vt, vu, HZ.out, HA.out.2.2, HB.out.2.2, Int.natCast_add, Int.natCast_mul])).mono ?_; intro e wi hm6; obtain ⟨bm6, b6, x5, n5, y5, x6, n6, y6, err, rfl, hform⟩ := hm6.form; have bPi : Below wf.heap.size wf wi := bfi.trans (bm6.mono bfi.size); have tw3 := hcf bPi; have hVi := hVf.below bPi (by omega); have hRi := hRf.below bPi (by omega); have q0 := hRi.c0; have q1 := hRi.c1; have q2 := hRi.c2; have p0 := hRi.f0; have p1 := hRi.f1; have p2 := hRi.f2))
          all_goals
           have hform2 := hform_mono (Nat.le_trans sh si) hform
           rw [HZ.out] at hform2
           go_wp2
           have hR3 := hRi.set (.bool b6) (.slice x5 n5 y5) (.slice x6 n6 y6)
           have r0 := hR3.c0
           have r1 := hR3.c1
           have r2 := hR3.c2
           refine bodyPost_ret (v := .tuple #[.agg #[.bool b6, .slice x5 n5 y5, .slice x6 n6 y6], .int .i64 err]) (by simp [results, Tryz.results202, go_sem, r0, r1, r2]) rfl ?_
           have hfin := rform_done (bwd.trans (bPg.mono (by omega))) (Nat.le_refl _) (by omega) bPi hform2
           have hlen : H.data.toList.length = H.size := lH'
           exact ⟨hfin.1, Or.inr ⟨H7.out, B, 46, _, _, HC.out, Or.inr (Or.inr (Or.inr (Or.inr ⟨HA.out.1, HB.out.1, rfl, by rw [hlen]; exact hfin⟩)))⟩⟩
       · by_cases hz : dval H.data.toList = 0
         · have HZ : Hid (dval H.data.toList = 0) := hz
           clear hz
           go_wp2_with fail
           refine (make_zero B o1d.rd (Nat.le_refl _) o2.rd (Nat.le_refl _) (by omega) (by omega) (by rw [HB.out.2.2, HZ.out]; rfl)).mono ?_
           rintro e we ⟨bf, he⟩
           unfold errOf at he
           subst he
           have hRe := hRd.below bf (by omega)
           have q0 := hRe.c0
           have q1 := hRe.c1
           have q2 := hRe.c2
           have p0 := hRe.f0
           have p1 := hRe.f1
           have p2 := hRe.f2
           go_wp2
           have hR3 := hRe.set (.bool false) (.slice none 0 0) (.slice none 0 0)
           have r0 := hR3.c0
           have r1 := hR3.c1
           have r2 := hR3.c2
           refine bodyPost_ret (v := .tuple #[.agg #[.bool false, .slice none 0 0, .slice none 0 0], .int .i64 22]) (by simp [results, Tryz.results202, go_sem, r0, r1, r2]) rfl ?_
           exact ⟨Below.set3 (bwd.trans (bf.mono (by omega))) (Nat.le_refl _) _ _ _, Or.inr ⟨H7.out, B, 114, _, _, HC.out, Or.inr (Or.inr (Or.inl ⟨HA.out.1, HB.out.1, rfl, HZ.out, rfl⟩))⟩⟩
         · have HZ : Hid (0 < dval H.data.toList) := by unfold Hid; omega
           clear hz
           go_wp2_with fail
           refine (make_any B (sg B (dval A.data.toList)) o1d.rd (Nat.le_refl _) o2.rd (Nat.le_refl _) (by omega) (by omega) (by rw [HB.out.2.2]; have := HZ.out; omega) (by rw [HA.out.2.2])).mono ?_
           intro e we hm6
           obtain ⟨bm6, b6, x5, n5, y5, x6, n6, y6, err, rfl, hform⟩ := hm6.form
           rw [HB.out.2.2] at hform
           have hRe := hRd.below bm6 (by omega)
           have q0 := hRe.c0
           have q1 := hRe.c1
           have q2 := hRe.c2
           have p0 := hRe.f0
           have p1 := hRe.f1
           have p2 := hRe.f2
           go_wp2
           have hR3 := hRe.set (.bool b6) (.slice x5 n5 y5) (.slice x6 n6 y6)
           have r0 := hR3.c0
           have r1 := hR3.c1
           have r2 := hR3.c2
           refine bodyPost_ret (v := .tuple #[.agg #[.bool b6, .slice x5 n5 y5, .slice x6 n6 y6], .int .i64 err]) (by simp [results, Tryz.results202, go_sem, r0, r1, r2]) rfl ?_
           have hfin := rform_done bwd (Nat.le_refl _) (by omega) bm6 hform
           exact ⟨hfin.1, Or.inr ⟨H7.out, B, 114, _, _, HC.out, Or.inr (Or.inr (Or.inr (Or.inl ⟨HA.out.1, HB.out.1, rfl, HZ.out, hfin⟩)))⟩⟩
end Go.Proofs.YtimfnalpmmkndaaGreatDoor
