/- Plain facts on texts: where a mark stands, what a macron is, byte by byte and character by character. -/
import Derived.Lib.RuneCount
import Derived.Laws.RangeAny
import Derived.Test.YtimfnalpmmkndaaGreatDoorJ3
import Derived.Lib.OthersKept
import Derived.Test.YtimfnalpmmkndaaGreatDoorJ1
import Derived.Test.YtimfnalpmmkndaaGreatDoorJ4
import Derived.Test.YtimfnalpmmkndaaGreatDoorJ2
namespace Go.Proofs.YtimfnalpmmkndaaGreatDoor
set_option linter.unusedVariables false
set_option linter.unusedSimpArgs false

theorem get_is (s : ByteArray) (p : Nat) (h : p < s.size) : s.get! p = s[p]'h := by
 simp [ByteArray.get!, getElem!_pos, h]
 rfl
theorem get_data (s : ByteArray) (p : Nat) (h : p < s.size) : s.data.toList[p]? = some (s.get! p) := by
 rw [get_is s p h]
 have h' : p < s.data.toList.length := by simpa using h
 rw [List.getElem?_eq_getElem h']
 rfl

/-- What stands behind a character's first byte is no ASCII. -/
theorem dec_cont (s : ByteArray) (pos j : Nat) (h1 : pos < j) (h2 : j < pos + (Utf8.decode s pos).2) : j < s.size ∧ 128 ≤ (s.get! j).toNat := by
 simp only [Utf8.decode] at h2
 split at h2
 · simp at h2; omega
 split at h2
 · rename_i h3
   simp only [Bool.and_eq_true, decide_eq_true_eq, beq_iff_eq] at h3
   split at h2
   · simp at h2
     obtain rfl : j = pos + 1 := by omega
     exact ⟨h3.2.1, by omega⟩
   · simp at h2; omega
 split at h2
 · rename_i h3
   simp only [Bool.and_eq_true, decide_eq_true_eq, beq_iff_eq] at h3
   split at h2
   · simp at h2
     have : j = pos + 1 ∨ j = pos + 2 := by omega
     rcases this with rfl | rfl
     · exact ⟨h3.1.2.1, by omega⟩
     · exact ⟨h3.2.1, by omega⟩
   · simp at h2; omega
 split at h2
 · rename_i h3
   simp only [Bool.and_eq_true, decide_eq_true_eq, beq_iff_eq] at h3
   split at h2
   · simp at h2
     have : j = pos + 1 ∨ j = pos + 2 ∨ j = pos + 3 := by omega
     rcases this with rfl | rfl | rfl
     · exact ⟨h3.1.1.2.1, by omega⟩
     · exact ⟨h3.1.2.1, by omega⟩
     · exact ⟨h3.2.1, by omega⟩
   · simp at h2; omega
 · simp at h2; omega

/-- Does a text begin with a macron? -/
def isMac (l : List UInt8) : Bool := match l with | a :: b :: _ => a.toNat == 194 && b.toNat == 175 | _ => false
theorem isMac_get (s : ByteArray) : isMac s.data.toList = true ↔ 1 < s.size ∧ (s.get! 0).toNat = 194 ∧ (s.get! 1).toNat = 175 := by
 have hs : s.size = s.data.toList.length := by simp
 constructor
 · intro h
   cases hl : s.data.toList with
   | nil => rw [hl] at h; cases h
   | cons a l =>
    cases l with
    | nil => rw [hl] at h; cases h
    | cons b l =>
     rw [hl] at h hs
     have hs1 : 1 < s.size := by rw [hs]; simp
     have g0 := get_data s 0 (by omega)
     have g1 := get_data s 1 hs1
     rw [hl] at g0 g1
     simp at g0 g1
     simp [isMac] at h
     rw [← g0, ← g1]
     exact ⟨hs1, h⟩
 · rintro ⟨h1, h2, h3⟩
   have g0 := get_data s 0 (by omega)
   have g1 := get_data s 1 h1
   cases hl : s.data.toList with
   | nil => rw [hl] at hs; simp only [List.length_nil] at hs; omega
   | cons a l =>
    cases l with
    | nil => rw [hl] at hs; simp only [List.length_cons, List.length_nil] at hs; omega
    | cons b l =>
     rw [hl] at g0 g1
     simp at g0 g1
     simp [isMac]
     rw [g0, g1]
     exact ⟨h2, h3⟩
end Go.Proofs.YtimfnalpmmkndaaGreatDoor

/- Where a number's text is cut: plain facts. -/
namespace Go.Proofs.YtimfnalpmmkndaaGreatDoor
set_option linter.unusedVariables false
set_option linter.unusedSimpArgs false

def isM (b : UInt8) : Prop := b.toNat = 46 ∨ b.toNat = 114
/-- Where a number's digits begin. -/
def st (l : List UInt8) : Nat := if isMac l = true then 2 else 0
/-- What a text's parts are. -/
def Cuts (l : List UInt8) (B : Bool) (m : Int) (A H : List UInt8) : Prop :=
 B = isMac l ∧ ((m = 0 ∧ A = l.drop (st l) ∧ H = [] ∧ ∀ y ∈ A, ¬ isM y) ∨ ∃ x, isM x ∧ m = (x.toNat : Int) ∧ l.drop (st l) = A ++ x :: H ∧ ∀ y ∈ A, ¬ isM y)

theorem dec_end (s : ByteArray) (pos : Nat) (h : pos < s.size) : pos + (Utf8.decode s pos).2 ≤ s.size := by
 have hw := Lib.decode_width_pos s pos h
 by_cases h1 : (Utf8.decode s pos).2 = 1
 · omega
 · have := (dec_cont s pos (pos + (Utf8.decode s pos).2 - 1) (by omega) (by omega)).1
   omega

theorem ext_list (s : ByteArray) (a b : Nat) : (s.extract a b).data.toList = (s.data.toList.drop a).take (b - a) := by
 rw [ByteArray.data_extract, Array.toList_extract]
theorem mem_at {s : ByteArray} {y : UInt8} {a n : Nat} (h : y ∈ (s.data.toList.drop a).take n) : ∃ j, a ≤ j ∧ j < a + n ∧ j < s.size ∧ s.get! j = y := by
 obtain ⟨i, hi, rfl⟩ := List.mem_iff_getElem.1 h
 have hl : i < n ∧ a + i < s.data.toList.length := by simp at hi; simp; omega
 have hs : s.size = s.data.toList.length := by simp
 refine ⟨a + i, by omega, by omega, by omega, ?_⟩
 have h1 := get_data s (a + i) (by omega)
 rw [List.getElem_take, List.getElem_drop]
 rw [List.getElem?_eq_getElem hl.2] at h1
 exact (Option.some.inj h1).symm

theorem cuts_unique {l A H A' H' : List UInt8} {B : Bool} {m : Int} {x : UInt8} (h : Cuts l B m A H) (hx : isM x) (e : l.drop (st l) = A' ++ x :: H') (hn : ∀ y ∈ A', ¬ isM y) : m = (x.toNat : Int) ∧ A = A' ∧ H = H' := by
 have key : ∀ (A A' H H' : List UInt8) (x y : UInt8), isM x → isM y → (∀ z ∈ A, ¬ isM z) → (∀ z ∈ A', ¬ isM z) → A ++ x :: H = A' ++ y :: H' → x = y ∧ A = A' ∧ H = H' := by
  intro A
  induction A with
  | nil =>
   intro A' H H' x y hx hy _ h2 e
   cases A' with
   | nil => simp at e; exact ⟨e.1, rfl, e.2⟩
   | cons a A' =>
    simp at e
    exact absurd (e.1 ▸ hx) (h2 a (by simp))
  | cons a A ih =>
   intro A' H H' x y hx hy h1 h2 e
   cases A' with
   | nil =>
    simp at e
    exact absurd (e.1 ▸ hy) (h1 a (by simp))
   | cons b A' =>
    simp at e
    obtain ⟨e1, e2, e3⟩ := ih A' H H' x y hx hy (fun z hz => h1 z (by simp [hz])) (fun z hz => h2 z (by simp [hz])) e.2
    exact ⟨e1, by rw [e.1, e2], e3⟩
 obtain ⟨_, ⟨_, hA, _, hm⟩ | ⟨y, hy, rfl, e', hm⟩⟩ := h
 · rw [e] at hA
   exact absurd hx (hm x (by rw [hA]; simp))
 · obtain ⟨rfl, rfl, rfl⟩ := key _ _ _ _ _ _ hy hx hm hn (e'.symm.trans e)
   exact ⟨rfl, rfl, rfl⟩
end Go.Proofs.YtimfnalpmmkndaaGreatDoor

/- rat.tooLong: has a text more than 700 characters? -/
namespace Go.Proofs.YtimfnalpmmkndaaGreatDoor
set_option linter.unusedVariables false
set_option linter.unusedSimpArgs false
open Go.RowKit

end Go.Proofs.YtimfnalpmmkndaaGreatDoor

/- rat.cut: a number's text in its parts. -/
namespace Go.Proofs.YtimfnalpmmkndaaGreatDoor
set_option linter.unusedVariables false
set_option linter.unusedSimpArgs false
open Go.RowKit

/-- A variable of four cells. -/
def Box4 (w : World) (B ty : Nat) (x y z u : Value) : Prop := w.heap[B]? = some (.cells #[x, y, z, u] ty (0, 0))
section
variable {w : World} {B ty : Nat} {x y z u : Value}
theorem Box4.below {w' : World} {base : Nat} (h : Box4 w B ty x y z u) (hb : Below base w w') (hB : B < base) : Box4 w' B ty x y z u := by
 unfold Box4; rw [hb.block B hB]; exact h
theorem Box4.c0 (h : Box4 w B ty x y z u) : w.cell? ⟨B, 0, none⟩ = some x := by unfold Box4 at h; simp [World.cell?, h]
theorem Box4.c1 (h : Box4 w B ty x y z u) : w.cell? ⟨B, 1, none⟩ = some y := by unfold Box4 at h; simp [World.cell?, h]
theorem Box4.c2 (h : Box4 w B ty x y z u) : w.cell? ⟨B, 2, none⟩ = some z := by unfold Box4 at h; simp [World.cell?, h]
theorem Box4.c3 (h : Box4 w B ty x y z u) : w.cell? ⟨B, 3, none⟩ = some u := by unfold Box4 at h; simp [World.cell?, h]
theorem Box4.f0 (h : Box4 w B ty x y z u) : w.frozen? ⟨B, 0, none⟩ = false := by unfold Box4 at h; simp [World.frozen?, h]
theorem Box4.f1 (h : Box4 w B ty x y z u) : w.frozen? ⟨B, 1, none⟩ = false := by unfold Box4 at h; simp [World.frozen?, h]
theorem Box4.f2 (h : Box4 w B ty x y z u) : w.frozen? ⟨B, 2, none⟩ = false := by unfold Box4 at h; simp [World.frozen?, h]
theorem Box4.f3 (h : Box4 w B ty x y z u) : w.frozen? ⟨B, 3, none⟩ = false := by unfold Box4 at h; simp [World.frozen?, h]
theorem Box4.set1 (h : Box4 w B ty x y z u) (v : Value) : Box4 (w.setCell ⟨B, 1, none⟩ v) B ty x v z u := by
 unfold Box4 at h ⊢; simp [World.setCell, Array.getElem?_modify, h]
theorem Box4.set2 (h : Box4 w B ty x y z u) (v : Value) : Box4 (w.setCell ⟨B, 2, none⟩ v) B ty x y v u := by
 unfold Box4 at h ⊢; simp [World.setCell, Array.getElem?_modify, h]
theorem Box4.set3 (h : Box4 w B ty x y z u) (v : Value) : Box4 (w.setCell ⟨B, 3, none⟩ v) B ty x y z v := by
 unfold Box4 at h ⊢; simp [World.setCell, Array.getElem?_modify, h]
theorem Box4.other (h : Box4 w B ty x y z u) {p : Addr} (hp : p.block ≠ B) (v : Value) : Box4 (w.setCell p v) B ty x y z u := by
 unfold Box4 at h ⊢
 have : ¬ p.block = B := hp
 simp [World.setCell, Array.getElem?_modify, h, this]
theorem Box4.iterAt (h : Box4 w B ty x y z u) {k : Nat} (hk : B ≠ k) (s : ByteArray) (pos : Nat) : Box4 (w.iterAt k s pos) B ty x y z u := by
 unfold Box4; rw [Lib.iterAt_other w k B s pos hk]; exact h
end

end Go.Proofs.YtimfnalpmmkndaaGreatDoor

/- (*running).timesLimb: the number becomes f times as great, and more is added. -/
namespace Go.Proofs.YtimfnalpmmkndaaGreatDoor
set_option linter.unusedVariables false
set_option linter.unusedSimpArgs false
open Go.RowKit

end Go.Proofs.YtimfnalpmmkndaaGreatDoor

/- nat.Parse: the number that digits say. -/
namespace Go.Proofs.YtimfnalpmmkndaaGreatDoor
set_option linter.unusedVariables false
set_option linter.unusedSimpArgs false
open Go.RowKit

theorem dval_lt {l : List UInt8} (h : digs l) : dval l < 10 ^ l.length := by
 induction l with
 | nil => decide
 | cons b l ih =>
  have hb := h b (by simp)
  have h2 := ih (fun c hc => h c (by simp [hc]))
  have e : dval (b :: l) = (b.toNat - 48) * 10 ^ l.length + dval l := by
   show (b :: l).foldl _ 0 = _
   rw [List.foldl_cons, dval_from]; simp
  rw [e, List.length_cons, Nat.pow_succ]
  have h3 : (b.toNat - 48) * 10 ^ l.length ≤ 9 * 10 ^ l.length := Nat.mul_le_mul_right _ (by omega)
  omega

theorem own_nil' (base : Nat) (w : World) : Own base w (.slice none 0 0) [] := ⟨lim_nil, World.ownsRow_nil _ _ _ _⟩

theorem byte_at {s : ByteArray} {l : List UInt8} (h : s.data.toList = l) (i : Nat) (hi : i < l.length) : s[i]'(by rw [show s.size = l.length by rw [← h]; rfl]; exact hi) = l[i] := by
 subst h
 rfl

def isNum (l : List UInt8) : Prop := digs l ∧ 0 < l.length
/-- What the reading of a text answers. -/
def Parses (w : World) (l : List UInt8) (e : Ending) (w' : World) : Prop :=
 Below w.heap.size w w' ∧ (isNum l → ∃ zs a c, can zs ∧ val zs = dval l ∧ e = .returned (.tuple #[.slice a zs.length c, .bool true]) ∧ Own w.heap.size w' (.slice a zs.length c) zs) ∧ (¬ isNum l → e = .returned (.tuple #[.slice none 0 0, .bool false]))

theorem extract_list (s : ByteArray) (a b : Nat) : (s.extract a b).data.toList = (s.data.toList.drop a).take (b - a) := by
 rw [ByteArray.data_extract, Array.toList_extract]

end Go.Proofs.YtimfnalpmmkndaaGreatDoor

/- nat.tooGreat and nat.Power: a power, or that it has more limbs than may be. -/
namespace Go.Proofs.YtimfnalpmmkndaaGreatDoor
set_option linter.unusedVariables false
set_option linter.unusedSimpArgs false
open Go.RowKit

theorem can_len_pw {zs : List Int} (h : can zs) (M : Nat) : (zs.length ≤ M ↔ val zs < pw M) := by
 constructor
 · intro hl
   have h1 := (val_bound h.1).2
   have h2 := pw_mono hl
   omega
 · intro hv
   by_cases hl : zs.length ≤ M
   · exact hl
   · have h1 := can_low h (by omega)
     have h2 := pw_mono (j := M) (k := zs.length - 1) (by omega)
     omega

end Go.Proofs.YtimfnalpmmkndaaGreatDoor

/- rat.Parse: a text's number. -/
namespace Go.Proofs.YtimfnalpmmkndaaGreatDoor
set_option linter.unusedVariables false
set_option linter.unusedSimpArgs false
open Go.RowKit

/-- An answer with an error: no number. -/
def errOf (n : Int) : Ending := .returned (.tuple #[.agg #[.bool false, .slice none 0 0, .slice none 0 0], .int .i64 n])

theorem ten_pw (n : Nat) : (((10 ^ n : Nat)) : Int) ≤ pw n := by
 induction n with
 | zero => decide
 | succ n ih =>
  rw [pw_succ, Nat.pow_succ, Int.natCast_mul]
  have h1 : (0 : Int) ≤ ((10 ^ n : Nat) : Int) := Int.natCast_nonneg _
  have := pw_pos n
  generalize ((10 ^ n : Nat) : Int) = T at *
  omega
theorem ten_lt (n : Nat) (h : 0 < n) : (((10 ^ n : Nat)) : Int) < pw n := by
 obtain ⟨k, rfl⟩ : ∃ k, n = k + 1 := ⟨n - 1, by omega⟩
 rw [pw_succ, Nat.pow_succ, Int.natCast_mul]
 have h1 := ten_pw k
 have := pw_pos k
 generalize ((10 ^ k : Nat) : Int) = T at *
 omega

/-- What nat.Parse answers, in one form. -/
theorem Parses.form {w w' : World} {l : List UInt8} {e : Ending} (h : Parses w l e w') : Below w.heap.size w w' ∧ ∃ (xs : List Int) (a : Option Addr) (c : Nat) (ok : Bool), e = .returned (.tuple #[.slice a xs.length c, .bool ok]) ∧ Own w.heap.size w' (.slice a xs.length c) xs ∧ xs.length ≤ l.length ∧ Hid ((ok = true ↔ isNum l) ∧ (ok = true → can xs ∧ val xs = (dval l : Int))) := by
 refine ⟨h.1, ?_⟩
 by_cases hn : isNum l
 · obtain ⟨zs, a, c, cz, vz, he, ho⟩ := h.2.1 hn
   refine ⟨zs, a, c, true, he, ho, ?_, ⟨fun _ => hn, fun _ => rfl⟩, fun _ => ⟨cz, vz⟩⟩
   rw [can_len_pw cz, vz]
   have h1 := dval_lt hn.1
   have h2 := ten_lt l.length hn.2
   omega
 · exact ⟨[], none, 0, false, h.2.2 hn, own_nil' _ _, Nat.zero_le _, ⟨(fun e => by cases e), fun e => absurd e hn⟩, fun e => by cases e⟩

theorem runeCount_size (s : ByteArray) : ∀ fuel pos, s.size ≤ pos + fuel → s.size ≤ pos + 4 * Lib.runeCountFrom s fuel pos
 | 0, pos, h => by omega
 | f + 1, pos, h => by
  unfold Lib.runeCountFrom
  by_cases hp : pos < s.size
  · rw [if_pos hp]
    have hw : (Utf8.decode s pos).2 ≤ 4 := by
     simp only [Utf8.decode]
     repeat' split
     all_goals simp
    have h1 := Lib.decode_width_pos s pos hp
    have ih := runeCount_size s f (pos + (Utf8.decode s pos).2) (by omega)
    omega
  · omega

/-- What a text's parts make. -/
def PartsMake (w : World) (B : Bool) (m : Int) (A H : List UInt8) (e : Ending) (w' : World) : Prop :=
 ((¬ isNum A ∨ (¬ m = 0 ∧ ¬ isNum H)) ∧ e = errOf 22) ∨ (isNum A ∧ m = 0 ∧ RMakes w (sg B (dval A)) 1 e w') ∨ (isNum A ∧ isNum H ∧ m = 114 ∧ dval H = 0 ∧ e = errOf 22) ∨
 (isNum A ∧ isNum H ∧ m = 114 ∧ 0 < dval H ∧ RMakes w (sg B (dval A)) (dval H) e w') ∨ (isNum A ∧ isNum H ∧ m = 46 ∧ RMakes w (sg B ((dval A * 10 ^ H.length + dval H : Nat) : Int)) ((10 ^ H.length : Nat) : Int) e w')
/-- What rat.Parse answers. -/
def RParses (w : World) (s : ByteArray) (e : Ending) (w' : World) : Prop :=
 Below w.heap.size w w' ∧ ((700 < Lib.runeCount s ∧ e = errOf 8) ∨ (¬ 700 < Lib.runeCount s ∧ ∃ B m A H, Cuts s.data.toList B m A H ∧ PartsMake w B m A H e w'))

theorem Cuts.mark {l A H : List UInt8} {B : Bool} {m : Int} (h : Cuts l B m A H) : m = 0 ∨ m = 46 ∨ m = 114 := by
 obtain ⟨_, ⟨h, _⟩ | ⟨x, hx, h, _⟩⟩ := h
 · exact Or.inl h
 · unfold isM at hx; omega
end Go.Proofs.YtimfnalpmmkndaaGreatDoor

/- The statements' own helper live: rat.Parse at two texts, rat.Mul, rat.Print. -/
namespace Go.Proofs.YtimfnalpmmkndaaGreatDoor
set_option linter.unusedVariables false
set_option linter.unusedSimpArgs false
open Go.RowKit

/-- What is in lowest terms, of a known small value. -/
theorem small_ratio {b c : Bool} {ns ds : List Int} {N D : Int} {p q : Nat} (cn : can ns) (cd : can ds) (hd : 0 < ds.length) (hg : gI (val ns) (val ds) = 1) (e : sg b (val ns) * D = N * val ds) (hD : 0 < D) (hN : N * q = sg c p * D) (hp : 0 < p) (hq : 0 < q) (p9 : p < 4294967296) (q9 : q < 4294967296) (hpq : Nat.gcd p q = 1) :
    b = c ∧ ns = [(p : Int)] ∧ ds = [(q : Int)] := by
 have dp : 0 < val ds := by have := can_low cd hd; have := pw_pos (ds.length - 1); omega
 have np := (val_bound cn.1).1
 have h1 : sg b (val ns) * q = sg c p * val ds := by
  refine cancel hD ?_
  have e1 : sg b (val ns) * q * D = sg b (val ns) * D * q := by ac_rfl
  have e2 : N * val ds * q = N * q * val ds := by ac_rfl
  have e3 : sg c p * D * val ds = sg c p * val ds * D := by ac_rfl
  rw [e1, e, e2, hN, e3]
 have pp : 0 < (p : Int) * val ds := Int.mul_pos (by omega) dp
 have nq : 0 ≤ val ns * (q : Int) := Int.mul_nonneg np (by omega)
 rw [← sg_mul, ← sg_mul] at h1
 have h2 : val ns * (q : Int) = (p : Int) * val ds ∧ b = c := by
  unfold sg at h1
  generalize val ns * (q : Int) = x at *
  generalize (p : Int) * val ds = y at *
  cases b <;> cases c <;> simp at h1 <;> first | exact ⟨by omega, rfl⟩ | (exfalso; omega)
 obtain ⟨n, en⟩ := Int.eq_ofNat_of_zero_le np
 obtain ⟨d, ed⟩ := Int.eq_ofNat_of_zero_le (Int.le_of_lt dp)
 have g1 : Nat.gcd n d = 1 := by
  rw [en, ed] at hg
  unfold gI at hg
  simp only [Int.toNat_natCast] at hg
  omega
 have hm := h2.1
 rw [en, ed] at hm
 have hmn : n * q = p * d := by exact_mod_cast hm
 have d1 : d ∣ q := Nat.Coprime.dvd_of_dvd_mul_left (show Nat.Coprime d n by rw [Nat.coprime_comm]; exact g1) ⟨p, by rw [hmn, Nat.mul_comm]⟩
 have d2 : q ∣ d := Nat.Coprime.dvd_of_dvd_mul_left (show Nat.Coprime q p by rw [Nat.coprime_comm]; exact hpq) ⟨n, by rw [← hmn, Nat.mul_comm]⟩
 obtain rfl : d = q := Nat.dvd_antisymm d1 d2
 obtain rfl : n = p := Nat.eq_of_mul_eq_mul_right hq hmn
 exact ⟨h2.2, limbs_of cn n (by omega) (by omega) en, limbs_of cd d (by omega) (by omega) ed⟩

/-- A known small number is answered. -/
def SmallNum (w : World) (c : Bool) (p q : Nat) (e : Ending) (w' : World) : Prop :=
 Below w.heap.size w w' ∧ ∃ ns ds a1 c1 a2 c2, Hid (ns = [(p : Int)] ∧ ds = [(q : Int)]) ∧ e = .returned (.tuple #[.agg #[.bool c, .slice a1 ns.length c1, .slice a2 ds.length c2], .int .i64 0]) ∧ Own w.heap.size w' (.slice a1 ns.length c1) ns ∧ Own w.heap.size w' (.slice a2 ds.length c2) ds
/-- A number that was made, of a known small value. -/
theorem RMakes.small {w w' : World} {N D : Int} {e : Ending} {c : Bool} {p q : Nat} (h : RMakes w N D e w') (hD : 0 < D) (hN : N * q = sg c p * D) (hp : 0 < p) (hq : 0 < q) (p9 : p < 4294967296) (q9 : q < 4294967296) (hpq : Nat.gcd p q = 1) :
    SmallNum w c p q e w' := by
 refine ⟨h.1, ?_⟩
 rcases h.2 with ⟨_, b, ns, ds, cn, cd, hd, hg, he, hl⟩ | ⟨b, ns, ds, a1, c1, a2, c2, rfl, on, od, hr, he⟩
 · exfalso
   obtain ⟨_, rfl, rfl⟩ := small_ratio cn cd hd hg he hD hN hp hq p9 q9 hpq
   simp at hl
 · obtain ⟨rfl, rfl, rfl⟩ := small_ratio hr.2.2.1 hr.2.2.2.1 hr.2.2.2.2.2.1 hr.2.2.2.2.2.2 he hD hN hp hq p9 q9 hpq
   exact ⟨_, _, a1, c1, a2, c2, ⟨rfl, rfl⟩, rfl, on, od⟩
theorem Gives.small {w w' : World} {P : Prop} {N D : Int} {e : Ending} {c : Bool} {p q : Nat} (h : Gives w P N D e w') (hP : P) (hD : 0 < D) (hN : N * q = sg c p * D) (hp : 0 < p) (hq : 0 < q) (p9 : p < 4294967296) (q9 : q < 4294967296) (hpq : Nat.gcd p q = 1) :
    SmallNum w c p q e w' := by
 obtain ⟨hb, b, x1, n, y1, x2, m, y2, err, rfl, ho⟩ := h
 refine ⟨hb, ?_⟩
 rcases ho.out with ⟨hn, _⟩ | ⟨_, _, _, _, _, _, _, _, _, b', ns, ds, cn, cd, hd, hg, he, hl⟩ | ⟨_, rfl, ns, ds, rfl, rfl, on, od, hr, he⟩
 · exact absurd hP hn
 · exfalso
   obtain ⟨_, rfl, rfl⟩ := small_ratio cn cd hd hg he hD hN hp hq p9 q9 hpq
   simp at hl
 · obtain ⟨rfl, rfl, rfl⟩ := small_ratio hr.2.2.1 hr.2.2.2.1 hr.2.2.2.2.2.1 hr.2.2.2.2.2.2 he hD hN hp hq p9 q9 hpq
   exact ⟨_, _, x1, y1, x2, y2, ⟨rfl, rfl⟩, rfl, on, od⟩

end Go.Proofs.YtimfnalpmmkndaaGreatDoor
