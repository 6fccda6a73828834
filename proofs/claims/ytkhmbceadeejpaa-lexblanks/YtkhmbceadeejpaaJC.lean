/- Characters that are written as bytes are read again. -/
import Derived.Test.YtkhmbceadeejpaaJA
import Derived.Test.YtkhmbceadeejpaaJ8
namespace Go.Proofs.Ytkhmbceadeejpaa
set_option linter.unusedVariables false
set_option linter.unusedSimpArgs false
open Go.RowKit

theorem enc_list (c : Int) (hc : okRune c) : (Utf8.encode c).data.toList =
    if c.toNat < 128 then [UInt8.ofNat c.toNat] else if c.toNat < 2048 then [UInt8.ofNat (192 + c.toNat / 64), UInt8.ofNat (128 + c.toNat % 64)]
    else if c.toNat < 65536 then [UInt8.ofNat (224 + c.toNat / 4096), UInt8.ofNat (128 + c.toNat / 64 % 64), UInt8.ofNat (128 + c.toNat % 64)]
    else [UInt8.ofNat (240 + c.toNat / 262144), UInt8.ofNat (128 + c.toNat / 4096 % 64), UInt8.ofNat (128 + c.toNat / 64 % 64), UInt8.ofNat (128 + c.toNat % 64)] := by
  have hv : Utf8.valid c = true := by
    unfold okRune at hc
    simp [Utf8.valid]
    omega
  unfold Utf8.encode
  simp only [hv, if_true]
  repeat' split
  all_goals rfl
theorem okRune_le {c : Int} (hc : okRune c) : c.toNat ≤ 1114111 ∧ (c.toNat < 55296 ∨ 57344 ≤ c.toNat) := by
  unfold okRune at hc
  omega
theorem nat_byte (n : Nat) (h : n < 256) : (UInt8.ofNat n).toNat = n := by simp; omega
set_option maxRecDepth 100000 in
set_option maxHeartbeats 4000000 in
theorem enc_dec (c : Int) (hc : okRune c) (t : List UInt8) : Lib.decodeL ((Utf8.encode c).data.toList ++ t) = (c.toNat, (Utf8.encode c).data.toList.length) := by
  have hr := okRune_le hc
  rw [enc_list c hc]
  generalize c.toNat = n at *
  by_cases h1 : n < 128
  · rw [if_pos h1, Lib.decodeL_N]
    simp only [List.cons_append, List.nil_append, List.getD_cons_zero, List.length_cons, List.length_nil]
    rw [nat_byte n (by omega)]
    unfold Lib.decodeN
    rw [if_pos h1]
  rw [if_neg h1]
  by_cases h2 : n < 2048
  · rw [if_pos h2, Lib.decodeL_N]
    simp only [List.cons_append, List.nil_append, List.getD_cons_zero, List.getD_cons_succ, List.length_cons, List.length_nil]
    rw [nat_byte (192 + n / 64) (by omega), nat_byte (128 + n % 64) (by omega)]
    unfold Lib.decodeN
    rw [if_neg (by omega), if_pos (by omega), if_pos (by omega)]
    apply Prod.ext <;> simp only <;> omega
  rw [if_neg h2]
  by_cases h3 : n < 65536
  · rw [if_pos h3, Lib.decodeL_N]
    simp only [List.cons_append, List.nil_append, List.getD_cons_zero, List.getD_cons_succ, List.length_cons, List.length_nil]
    rw [nat_byte (224 + n / 4096) (by omega), nat_byte (128 + n / 64 % 64) (by omega), nat_byte (128 + n % 64) (by omega)]
    unfold Lib.decodeN
    rw [if_neg (by omega), if_neg (by omega), if_pos (by omega), if_pos (by omega)]
    apply Prod.ext <;> simp only <;> omega
  rw [if_neg h3, Lib.decodeL_N]
  simp only [List.cons_append, List.nil_append, List.getD_cons_zero, List.getD_cons_succ, List.length_cons, List.length_nil]
  rw [nat_byte (240 + n / 262144) (by omega), nat_byte (128 + n / 4096 % 64) (by omega), nat_byte (128 + n / 64 % 64) (by omega), nat_byte (128 + n % 64) (by omega)]
  unfold Lib.decodeN
  rw [if_neg (by omega), if_neg (by omega), if_neg (by omega), if_pos (by omega), if_pos (by omega)]
  apply Prod.ext <;> simp only <;> omega
theorem enc_len (c : Int) (hc : okRune c) : 1 ≤ (Utf8.encode c).data.toList.length ∧ (Utf8.encode c).data.toList.length ≤ 4 ∧ (c.toNat = 65533 → (Utf8.encode c).data.toList.length = 3) := by
  rw [enc_list c hc]
  repeat' split
  all_goals simp
  all_goals omega
theorem runesBytes_nil : (runesBytes []).data.toList = [] := rfl
theorem scan_from (s : ByteArray) : ∀ (l : List Int) (pre : List UInt8) (acc : List Int) (f : Nat), (∀ c ∈ l, okRune c) → s.data.toList = pre ++ (runesBytes l).data.toList → s.size ≤ pre.length + f → scanR s f pre.length acc = (acc ++ l, 0, 0)
  | [], pre, acc, f, _, hs, hf => by
    have hsz : s.data.toList.length = s.size := by simp
    rw [runesBytes_nil, List.append_nil] at hs
    rw [hs] at hsz
    cases f with
    | zero => rw [scanR, List.append_nil]
    | succ f => rw [scanR, if_neg (by omega), List.append_nil]
  | c :: l, pre, acc, f, hok, hs, hf => by
    have hc := hok c (by simp)
    have hlen := enc_len c hc
    have hsz : s.data.toList.length = s.size := by simp
    rw [runesBytes_cons] at hs
    have hl := congrArg List.length hs
    rw [List.length_append, List.length_append, hsz] at hl
    have hd : Utf8.decode s pre.length = (c.toNat, (Utf8.encode c).data.toList.length) := by
      rw [← Lib.decodeL_drop, hs, List.drop_left]
      exact enc_dec c hc _
    obtain ⟨f, rfl⟩ : ∃ g, f = g + 1 := ⟨f - 1, by omega⟩
    have hcn : ((c.toNat : Nat) : Int) = c := by unfold okRune at hc; omega
    rw [scanR, if_pos (by omega), hd]
    simp only
    rw [if_neg (fun h => by have := hlen.2.2 h.1; omega), hcn]
    have e : pre.length + (Utf8.encode c).data.toList.length = (pre ++ (Utf8.encode c).data.toList).length := by simp
    rw [e, scan_from s l (pre ++ (Utf8.encode c).data.toList) (acc ++ [c]) f (fun d hd => hok d (by simp [hd])) (by rw [hs, List.append_assoc]) (by rw [List.length_append]; omega)]
    simp
/-- The characters of what was written. -/
theorem scan_back (l : List Int) (hok : ∀ c ∈ l, okRune c) : scanR (runesBytes l) (runesBytes l).size 0 [] = (l, 0, 0) := by
  have := scan_from (runesBytes l) l [] [] (runesBytes l).size hok (by simp) (by simp)
  simpa using this
end Go.Proofs.Ytkhmbceadeejpaa

/- Where tokens stand: each behind the one before. -/
namespace Go.Proofs.Ytkhmbceadeejpaa
set_option linter.unusedVariables false
set_option linter.unusedSimpArgs false
open Go.RowKit

def tokLen (x : Int × ByteArray × Nat × Int) : Nat := (scanR x.2.1 x.2.1.size 0 []).1.length
theorem cut_len2 {cs : List Int} (hok : ∀ c ∈ cs, okRune c) {i j : Nat} (hj : j ≤ cs.length) : (scanR (cutText cs i j) (cutText cs i j).size 0 []).1.length = j - i := by
  unfold cutText
  rw [scan_back _ (fun c hc => hok c (List.mem_of_mem_drop (List.mem_of_mem_take hc)))]
  simp; omega
theorem cut_size {cs : List Int} {i j : Nat} (hj : j ≤ cs.length) (hl : cs.length ≤ 1024) : (cutText cs i j).size ≤ 2000000 := by
  unfold cutText
  have h1 := runesBytes_size_le ((cs.drop i).take (j - i))
  have h2 : ((cs.drop i).take (j - i)).length ≤ cs.length := by simp; omega
  omega
/-- What is so of each token, and of each with those behind it. -/
def Good (cs : List Int) (x : Int × ByteArray × Nat × Int) : Prop := x.2.2.1 + tokLen x ≤ cs.length ∧ x.2.1.size ≤ 2000000 ∧ (¬ x.1 = 0 → 0 < tokLen x)
theorem items_good (ne : ByteArray → Int) (cs : List Int) (hok : ∀ c ∈ cs, okRune c) (hl : cs.length ≤ 1024) : ∀ (f i : Nat), i ≤ cs.length → (∀ x ∈ itemsF ne cs f i, x.2.2.2 = 0) →
    (∀ x ∈ itemsF ne cs f i, i ≤ x.2.2.1 ∧ Good cs x) ∧ (itemsF ne cs f i).Pairwise (fun x y => x.2.2.1 + tokLen x ≤ y.2.2.1)
  | 0, i, _, _ => by rw [itemsF]; exact ⟨(fun x h => by cases h), List.Pairwise.nil⟩
  | f + 1, i, hi, hE => by
    have hz : ∀ p : Nat, tokLen (0, ⟨#[]⟩, p, 0) = 0 := fun p => by
      show (scanR ⟨#[]⟩ 0 0 []).1.length = 0
      decide +kernel
    rw [itemsF] at hE ⊢
    by_cases h1 : i < cs.length
    · rw [if_pos h1] at hE ⊢
      by_cases h2 : (nextF ne cs i).2.2 = 0
      · rw [if_pos h2] at hE ⊢
        have hj := nextF_end ne cs i h1 h2
        have hp := passTo_le hj.2
        obtain ⟨g1, g2⟩ := items_good ne cs hok hl f (passTo cs (nextF ne cs i).2.1) hp.2 (fun x hx => hE x (List.mem_cons_of_mem _ hx))
        have htl : tokLen ((nextF ne cs i).1, cutText cs i (nextF ne cs i).2.1, i, 0) = (nextF ne cs i).2.1 - i := cut_len2 hok hj.2
        refine ⟨fun x hx => ?_, List.Pairwise.cons (fun y hy => ?_) g2⟩
        · rcases List.mem_cons.1 hx with rfl | hx
          · refine ⟨Nat.le_refl _, ?_, cut_size hj.2 hl, fun _ => ?_⟩
            · rw [htl]; simp only; omega
            · rw [htl]; omega
          · have := g1 x hx
            exact ⟨by omega, this.2⟩
        · rw [htl]
          have := (g1 y hy).1
          simp only
          omega
      · rw [if_neg h2] at hE
        exact absurd (hE _ (List.mem_singleton.2 rfl)) h2
    · rw [if_neg h1]
      refine ⟨fun x hx => ?_, List.pairwise_singleton _ _⟩
      rw [List.mem_singleton.1 hx]
      exact ⟨Nat.le_refl _, (by rw [hz]; simp only; omega), Nat.zero_le 2000000, fun h => absurd rfl h⟩
end Go.Proofs.Ytkhmbceadeejpaa

/- lex.Count; slices.Contains of kinds. -/
namespace Go.Proofs.Ytkhmbceadeejpaa
set_option linter.unusedVariables false
set_option linter.unusedSimpArgs false
open Go.RowKit Go.Shelf

/-- A slice of small numbers that is read. -/
def RdK (B : Nat) (w : World) (v : Value) (ks : List Int) : Prop :=
  ∃ a cap, v = .slice a ks.length cap ∧ ks.length ≤ cap ∧ cap ≤ 9223372036854775807 ∧
    (ks.length = 0 ∨ ∃ b off, a = some ⟨b, off, none⟩ ∧ b < B ∧ ∀ j, j < ks.length → w.cell? ⟨b, off + j, none⟩ = some (.int .u8 (ks.getD j 0)))
theorem RdK.below {B : Nat} {w w' : World} {v : Value} {ks : List Int} (h : RdK B w v ks) (hb : Below B w w') : RdK B w' v ks := by
  obtain ⟨a, cap, hv, h1, h2, h3⟩ := h
  refine ⟨a, cap, hv, h1, h2, ?_⟩
  rcases h3 with h3 | ⟨b, off, h4, h5, h6⟩
  · exact Or.inl h3
  · exact Or.inr ⟨b, off, h4, h5, fun j hj => (hb.cell (p := ⟨b, off + j, none⟩) h5).trans (h6 j hj)⟩

/-- How many of some tokens are of some kinds. -/
def cnt (ks : List Int) (l : List (Int × ByteArray × Nat × Int)) : Nat := (l.filter (fun x => decide (x.1 ∈ ks))).length
theorem cnt_app (ks : List Int) (l : List (Int × ByteArray × Nat × Int)) (x : Int × ByteArray × Nat × Int) : cnt ks (l ++ [x]) = cnt ks l + (if x.1 ∈ ks then 1 else 0) := by
  unfold cnt
  rw [List.filter_append, List.length_append]
  by_cases h : x.1 ∈ ks <;> simp [h]
theorem cnt_le (ks : List Int) (l : List (Int × ByteArray × Nat × Int)) : cnt ks l ≤ l.length := List.length_filter_le _ _
theorem flat_get {xs : List TokG} {i : Nat} (hi : i < xs.length) (k : Nat) (hk : k < 5) : (xs.flatMap TokG.cells)[5 * i + k]? = (xs[i]).cells[k]? := by
  induction xs generalizing i with
  | nil => simp at hi
  | cons x xs ih =>
    rw [List.flatMap_cons]
    cases i with
    | zero => rw [Nat.mul_zero, Nat.zero_add, List.getElem?_append_left (by simpa [TokG.cells] using hk)]; rfl
    | succ i =>
      rw [List.getElem?_append_right (by simp [TokG.cells]; omega)]
      have e : 5 * (i + 1) + k - x.cells.length = 5 * i + k := by simp [TokG.cells]; omega
      rw [e, ih (by simpa using hi)]
      rfl
theorem row_ptr {W : World} {base e size n : Nat} {a : Option Addr} {c : Nat} {xs : List Value} (h : W.ownsRow base e size (.slice a n c) n xs) (h0 : 0 < n) : ∃ g, a = some ⟨g, 0, none⟩ ∧ n ≤ c ∧ c ≤ 9223372036854775807 ∧ g < W.heap.size := by
  obtain ⟨_, h | ⟨g, cap, cur, hv, hg, hh, h1, h2, _, _⟩⟩ := h
  · obtain ⟨_, h3, _⟩ := Value.slice.inj h.1; omega
  · obtain ⟨rfl, _, rfl⟩ := Value.slice.inj hv
    exact ⟨g, rfl, h1, by unfold maxLen at h2; omega, lt_of_block hh⟩

theorem allF_len (ne : ByteArray → Int) (s : ByteArray) : (allF ne s).1.length ≤ 1025 := by
  unfold allF
  by_cases h1 : 1024 < s.size
  · rw [if_pos h1]; simp
  rw [if_neg h1]
  by_cases h2 : ¬ (scanR s s.size 0 []).2.1 = 0
  · rw [if_pos h2]; simp
  rw [if_neg h2]
  by_cases h3 : (lastEr (items ne (scanR s s.size 0 []).1)).1 = 0
  · rw [if_pos h3]
    have h4 := scanR_len s s.size 0 [] (by simp) (by omega)
    have h5 : (items ne (scanR s s.size 0 []).1).length ≤ _ := itemsF_len ne (scanR s s.size 0 []).1 _ _
    simp only
    omega
  · rw [if_neg h3]; simp

end Go.Proofs.Ytkhmbceadeejpaa

/- Cutting at diamonds: what is meant. -/
namespace Go.Proofs.Ytkhmbceadeejpaa
set_option linter.unusedVariables false
set_option linter.unusedSimpArgs false
open Go.RowKit

def diaT : ByteArray := ⟨#[226, 139, 132]⟩
def opT : ByteArray := ⟨#[123]⟩
def clT : ByteArray := ⟨#[125]⟩
/-- Where a token ends. -/
def tokEnd (x : Int × ByteArray × Nat × Int) : Nat := x.2.2.1 + (scanR x.2.1 x.2.1.size 0 []).1.length
/-- What stands from the first of some tokens to the last one. -/
def stretchF (cs : List Int) (l : List (Int × ByteArray × Nat × Int)) : ByteArray := match l with
  | [] => ⟨#[]⟩
  | x :: r => cutText cs x.2.2.1 (tokEnd ((x :: r).getLast (by simp)))
/-- The program's way. -/
def spl (cs : List Int) : List (Int × ByteArray × Nat × Int) → List (Int × ByteArray × Nat × Int) → Nat → List ByteArray
  | [], _, _ => []
  | t :: r, cur, op => if t.1 = 0 ∨ t.2.1 = diaT ∧ op = 0 then stretchF cs cur :: spl cs r [] op
    else if t.2.1 = opT then spl cs r (cur ++ [t]) (op + 1)
    else if t.2.1 = clT ∧ 0 < op then spl cs r (cur ++ [t]) (op - 1)
    else spl cs r (cur ++ [t]) op
/-- Without blanks at both ends. -/
def trimL (l : List UInt8) : List UInt8 := l.dropWhile (fun b => b == 32 || b == 9)
def trimB (l : List UInt8) : List UInt8 := (trimL (trimL l).reverse).reverse
/-- The document's way. -/
def rspl (cs : List Int) : List (Int × ByteArray × Nat × Int) → Nat → Nat → List ByteArray
  | [], _, _ => []
  | t :: r, p, op => if t.1 = 6 ∧ t.2.1 = opT then rspl cs r p (op + 1)
    else if (t.1 = 6 ∧ t.2.1 = clT) ∧ 0 < op then rspl cs r p (op - 1)
    else if (t.1 = 6 ∧ t.2.1 = diaT) ∧ op = 0 then ⟨(trimB (cutText cs p t.2.2.1).data.toList).toArray⟩ :: rspl cs r (t.2.2.1 + 1) op
    else if t.1 = 0 then ⟨(trimB (cutText cs p t.2.2.1).data.toList).toArray⟩ :: rspl cs r p op
    else rspl cs r p op
end Go.Proofs.Ytkhmbceadeejpaa

/- lex.stretch and lex.Split. -/
namespace Go.Proofs.Ytkhmbceadeejpaa
set_option linter.unusedVariables false
set_option linter.unusedSimpArgs false
open Go.RowKit Go.Shelf

theorem conv_cutS {W : World} {cs : List Int} {b off cap i j : Nat} (hj : j ≤ cs.length) (hc : ∀ m, m < cs.length → W.cell? ⟨b, off + m, none⟩ = some (.int .i32 (cs.getD m 0))) :
    (convert 39 9 (.slice (some ⟨b, off + i, none⟩) (j - i) (cap - i))).run Try.prog W = .ok (.string (cutText cs i j)) W :=
  run_convert_runes (P := Try.prog) W 39 9 21 ⟨b, off + i, none⟩ (j - i) (cap - i) (cs.drop i) (by rw [List.length_drop]; omega) Try.underlying39 Try.underlying21 Try.underlying9 (fun m hm => by
    have hm' : m < cs.length - i := by rw [← List.length_drop]; exact hm
    have e : ((⟨b, off + i, none⟩ : Addr).add m) = ⟨b, off + (i + m), none⟩ := by simp [Addr.add, Nat.add_assoc]
    rw [e, hc (i + m) (by omega)]
    simp [List.getD])
theorem stretch_cons (cs : List Int) (x y : TokG) (l : List TokG) (h : (x :: l).getLast (by simp) = y) : stretchF cs ((x :: l).map TokG.core) = cutText cs x.pl (y.pl + (scanR y.tx y.tx.size 0 []).1.length) := by
  rw [List.map_cons]
  unfold stretchF
  simp only
  have e : (x.core :: l.map TokG.core).getLast (by simp) = y.core := by
    rw [← h]
    have := List.getLast_map (f := TokG.core) (l := x :: l) (by simp)
    simpa using this
  rw [e]
  rfl

set_option maxRecDepth 100000 in
set_option maxHeartbeats 6400000 in
theorem stretch_any {W : World} {cs : List Int} {b off c g o cp : Nat} {x y : TokG} {l : List TokG} (hk : cs.length ≤ c) (hcap : c ≤ 9223372036854775807) (hcl : cs.length ≤ 1024) (hc : ∀ m, m < cs.length → W.cell? ⟨b, off + m, none⟩ = some (.int .i32 (cs.getD m 0))) (hb : b < W.heap.size) (hg : g < W.heap.size)
    (hl : (x :: l).getLast (by simp) = y) (hll : l.length ≤ 1025) (hcp : l.length + 1 ≤ cp) (hcp2 : cp ≤ 9223372036854775807) (hy : ∀ k, k < 5 → ∀ u, y.cells[k]? = some u → W.cell? ⟨g, o + l.length * 5 + k, none⟩ = some u) (hx : W.cell? ⟨g, o + 2, none⟩ = some (.int .i64 x.pl))
    (hys : y.tx.size ≤ 2000000) (hE : y.pl + (scanR y.tx y.tx.size 0 []).1.length ≤ cs.length) (hP : x.pl < y.pl + (scanR y.tx y.tx.size 0 []).1.length) :
    Calls Try.prog 13 #[.slice (some ⟨b, off, none⟩) cs.length c, .slice (some ⟨g, o, none⟩) (l.length + 1) cp] W fun e w' => e = .returned (.string (stretchF cs ((x :: l).map TokG.core))) ∧ Below W.heap.size W w' := by
  rw [stretch_cons cs x y l hl]
  obtain ⟨E, hEE⟩ : ∃ E, y.pl + (scanR y.tx y.tx.size 0 []).1.length = E := ⟨_, rfl⟩
  rw [hEE] at hE hP ⊢
  have HE : Hid (y.pl + (scanR y.tx y.tx.size 0 []).1.length = E) := hEE
  clear hEE
  have HCV : Hid (∀ w' : World, (∀ m, m < cs.length → w'.cell? ⟨b, off + m, none⟩ = some (.int .i32 (cs.getD m 0))) → (convert 39 9 (.slice (some ⟨b, off + x.pl, none⟩) (E - x.pl) (c - x.pl))).run Try.prog w' = .ok (.string (cutText cs x.pl E)) w') := fun w' h => conv_cutS hE h
  generalize cutText cs x.pl E = TX at *
  have q0 : W.cell? ⟨g, o + l.length * 5, none⟩ = some (.int .u8 y.kd) := hy 0 (by omega) _ rfl
  have q1 := hy 1 (by omega) _ rfl
  have q2 := hy 2 (by omega) _ rfl
  have q3 := hy 3 (by omega) _ rfl
  have q4 := hy 4 (by omega) _ rfl
  have NX := boxA_new W #[.int .u8 y.kd, .string y.tx, .int .i64 y.pl, .slice y.a1 y.n1 y.c1, .slice y.a2 y.n2 y.c2] 33
  have kx := below_alloc W (.cells #[.int .u8 y.kd, .string y.tx, .int .i64 y.pl, .slice y.a1 y.n1 y.c1, .slice y.a2 y.n2 y.c2] 33)
  have HC : Hid (∀ m, m < cs.length → W.cell? ⟨b, off + m, none⟩ = some (.int .i32 (cs.getD m 0))) := hc
  clear hc hy hl
  have n1 := NX.cell 1 rfl
  go_enter Try.func13, Try.ntmps13
  go_wp2_with fail
  refine (runes_all y.tx _ hys).mono ?_
  rintro e w1 ⟨ts, ta, tc, er, at', rfl, _, HS, k1⟩
  have hE2 : (y.pl : Int) + (ts.length : Int) = (E : Int) := by
    have := HE.out
    rw [HS.out] at this
    simp only at this
    omega
  clear HS HE
  have kW := kx.trans (k1.mono kx.size)
  have m2 := (NX.below k1 NX.lt).cell 2 rfl
  have hx1 := (kW.cell (p := ⟨g, o + 2, none⟩) hg).trans hx
  have hcv := HCV.out w1 (fun m hm => (kW.cell (p := ⟨b, off + m, none⟩) hb).trans (HC.out m hm))
  have hcv2 := HCV.out w1.drew (fun m hm => (kW.cell (p := ⟨b, off + m, none⟩) hb).trans (HC.out m hm))
  clear HCV
  have hci : ¬ c = x.pl := by omega
  have hcj : ¬ x.pl = c := by omega
  have hcz : ¬ c - x.pl = 0 := by omega
  go_wp2
  go_region
  all_goals
    go_wp2
    go_ret
    exact ⟨rfl, kW.trans ⟨rfl, rfl, rfl, Nat.le_refl _, fun _ _ => rfl⟩⟩
end Go.Proofs.Ytkhmbceadeejpaa

/- What lex.Split answers; tokens in a row. -/
namespace Go.Proofs.Ytkhmbceadeejpaa
set_option linter.unusedVariables false
set_option linter.unusedSimpArgs false
open Go.RowKit Go.Shelf

theorem info_str : (Try.prog.info? 9).map (fun i => (i.zero, i.size, i.bytes)) = some (some (.string ⟨#[]⟩), 1, 16) := by kernel_rfl
/-- What a line is cut into at its diamonds. -/
def splitF (ne : ByteArray → Int) (s : ByteArray) : List ByteArray × Int × Nat :=
  if (allF ne s).2.1 = 0 then (spl (scanR s s.size 0 []).1 (allF ne s).1 [] 0, 0, 0) else ([], (allF ne s).2)
def SplitIs (w : World) (F : List ByteArray × Int × Nat) (e : Ending) (w' : World) : Prop :=
  ∃ v, e = .returned (.tuple #[v, .int .i64 F.2.1, .int .i64 ((F.2.2 : Nat) : Int)]) ∧ w'.ownsRow w.heap.size 9 1 v F.1.length (F.1.map Value.string) ∧ Below w.heap.size w w'

/-- What is so where a line is taken. -/
theorem allF_ok {ne : ByteArray → Int} {s : ByteArray} (h : (allF ne s).2.1 = 0) : s.size ≤ 1024 ∧ (scanR s s.size 0 []).2.1 = 0 ∧ (allF ne s).1 = items ne (scanR s s.size 0 []).1 ∧ (lastEr (items ne (scanR s s.size 0 []).1)).1 = 0 := by
  unfold allF at h ⊢
  by_cases h1 : 1024 < s.size
  · rw [if_pos h1] at h; exact absurd h (by decide)
  rw [if_neg h1] at h ⊢
  by_cases h2 : ¬ (scanR s s.size 0 []).2.1 = 0
  · rw [if_pos h2] at h; exact absurd h h2
  rw [if_neg h2] at h ⊢
  by_cases h3 : (lastEr (items ne (scanR s s.size 0 []).1)).1 = 0
  · rw [if_pos h3]; exact ⟨by omega, by omega, rfl, h3⟩
  · rw [if_neg h3] at h; exact absurd h h3
theorem itemsF_er (ne : ByteArray → Int) (cs : List Int) : ∀ f i, (lastEr (itemsF ne cs f i)).1 = 0 → ∀ x ∈ itemsF ne cs f i, x.2.2.2 = 0
  | 0, i, _, x, hx => by rw [itemsF] at hx; cases hx
  | f + 1, i, h, x, hx => by
    rw [itemsF] at h hx
    by_cases h1 : i < cs.length
    · rw [if_pos h1] at h hx
      by_cases h2 : (nextF ne cs i).2.2 = 0
      · rw [if_pos h2] at h hx
        have h3 : (lastEr (itemsF ne cs f (passTo cs (nextF ne cs i).2.1))).1 = 0 := by
          unfold lastEr at h ⊢
          cases hl : itemsF ne cs f (passTo cs (nextF ne cs i).2.1) with
          | nil => simp
          | cons y l =>
            rw [hl] at h
            rw [List.getLast?_cons_cons] at h
            exact h
        rcases List.mem_cons.1 hx with rfl | hx
        · rfl
        · exact itemsF_er ne cs f _ h3 x hx
      · rw [if_neg h2] at h hx
        rw [List.mem_singleton.1 hx]
        exact h
    · rw [if_neg h1] at hx
      rw [List.mem_singleton.1 hx]
theorem stretchF_nil (cs : List Int) : stretchF cs [] = ⟨#[]⟩ := rfl
theorem part_step {toks : List TokG} {i fr : Nat} (hi : i < toks.length) (hf : fr ≤ i) : (toks.take (i + 1)).drop fr = (toks.take i).drop fr ++ [toks[i]] := by
  rw [← List.take_append_getElem hi, List.drop_append_of_le_length (by simp; omega)]
theorem part_none {toks : List TokG} {i : Nat} : (toks.take i).drop i = [] := List.drop_of_length_le (by simp; omega)
theorem rest_step {toks : List TokG} {i : Nat} (hi : i < toks.length) : toks.drop i = toks[i] :: toks.drop (i + 1) := List.drop_eq_getElem_cons hi
theorem part_form {toks : List TokG} {i fr : Nat} (hi : i ≤ toks.length) (hf : fr < i) : ∃ (l : List TokG) (h1 : fr < toks.length) (h2 : i - 1 < toks.length), (toks.take i).drop fr = toks[fr] :: l ∧ l.length + 1 = i - fr ∧ (toks[fr] :: l).getLast (by simp) = toks[i - 1] := by
  have h1 : fr < toks.length := by omega
  have h2 : i - 1 < toks.length := by omega
  have e : (toks.take i).drop fr = toks[fr] :: (toks.take i).drop (fr + 1) := by
    rw [List.drop_eq_getElem_cons (by simp; omega)]
    simp
  refine ⟨(toks.take i).drop (fr + 1), h1, h2, e, by simp; omega, ?_⟩
  have : ∀ (l m : List TokG) (h : l = m) (hl : l ≠ []) (hm : m ≠ []), l.getLast hl = m.getLast hm := fun l m h hl hm => by subst h; rfl
  rw [← this _ _ e (by rw [e]; simp) (by simp), List.getLast_eq_getElem]
  simp only [List.getElem_drop, List.getElem_take, List.length_drop, List.length_take]
  congr 1
  omega
end Go.Proofs.Ytkhmbceadeejpaa

/- lex.Split: cut at the diamonds outside braces. -/
namespace Go.Proofs.Ytkhmbceadeejpaa
set_option linter.unusedVariables false
set_option linter.unusedSimpArgs false
open Go.RowKit Go.Shelf

set_option maxRecDepth 100000 in
theorem stretch_nil {W : World} {v a : Value} {p : Option Addr} {n c : Nat} (hn : n = 0) (hv : a = .slice p n c) :
    Calls Try.prog 13 #[v, a] W fun e w' => e = .returned (.string ⟨#[]⟩) ∧ w' = W := by
  subst hn hv
  go_enter Try.func13, Try.ntmps13
  go_wp2
  go_ret
  exact ⟨rfl, rfl⟩

/-- The stretch of the tokens from fr up to i. -/
theorem stretch_part {W : World} {ne : ByteArray → Int} {cs : List Int} {a : Option Addr} {c g cv fr i B : Nat} {toks : List TokG} (hO : RdR B W (.slice a cs.length c) cs) (hB : B ≤ W.heap.size) (hcl : cs.length ≤ 1024) (hg : g < W.heap.size)
    (hi : i < toks.length) (hf : fr < i) (htl : toks.length ≤ cv) (hcv : cv ≤ 9223372036854775807) (htl2 : toks.length ≤ 1025)
    (hcell : ∀ j (hj : j < toks.length) k, k < 5 → W.cell? ⟨g, j * 5 + k, none⟩ = (toks[j]).cells[k]?)
    (hok : ∀ c ∈ cs, okRune c) (ht : toks.map TokG.core = items ne cs) (hE : (lastEr (items ne cs)).1 = 0) (hk : ∀ x ∈ (toks.take i).drop fr, ¬ x.kd = 0) (n cp : Nat) (hn : n = i - fr) (hcp : cp = cv - fr) :
    Calls Try.prog 13 #[.slice a cs.length c, .slice (some ⟨g, fr * 5, none⟩) n cp] W fun e w' => e = .returned (.string (stretchF cs (((toks.take i).drop fr).map TokG.core))) ∧ Below W.heap.size W w' := by
  obtain ⟨l, h1, h2, e, hl, hlast⟩ := part_form (Nat.le_of_lt hi) hf
  have hp := passTo_le (cs := cs) (Nat.zero_le _)
  obtain ⟨g1, g2⟩ := items_good ne cs hok hcl (cs.length + 1) (passTo cs 0) hp.2 (itemsF_er ne cs _ _ hE)
  have ht' : itemsF ne cs (cs.length + 1) (passTo cs 0) = toks.map TokG.core := ht.symm
  rw [ht'] at g1 g2
  have hy := (g1 (toks[i - 1]).core (List.mem_map.2 ⟨_, List.getElem_mem h2, rfl⟩)).2
  have hyk : ¬ (toks[i - 1]).kd = 0 := hk _ (by rw [e, ← hlast]; exact List.getLast_mem _)
  have hyl : 0 < tokLen (toks[i - 1]).core := hy.2.2 hyk
  have hP : (toks[fr]).pl < (toks[i - 1]).pl + tokLen (toks[i - 1]).core := by
    by_cases he : fr = i - 1
    · subst he; omega
    · have := List.pairwise_iff_getElem.1 g2 fr (i - 1) (by simpa using h1) (by simpa using h2) (by omega)
      simp only [List.getElem_map] at this
      have h3 : (toks[fr]).pl + tokLen (toks[fr]).core ≤ (toks[i - 1]).pl := this
      omega
  have hE2 : (toks[i - 1]).pl + tokLen (toks[i - 1]).core ≤ cs.length := hy.1
  obtain ⟨_, _, he, h3, h4, h5⟩ := hO
  obtain ⟨rfl, _, rfl⟩ := Value.slice.inj he
  rcases h5 with h5 | ⟨b, off, rfl, hb, hc⟩
  · omega
  rw [e]
  obtain rfl : n = l.length + 1 := by omega
  obtain rfl : cp = cv - fr := hcp
  exact stretch_any (x := toks[fr]) (y := toks[i - 1]) (l := l) h3 h4 hcl hc (by omega) hg hlast (by omega) (by omega) (by omega)
    (fun k hk5 u hu => by rw [show fr * 5 + l.length * 5 + k = (i - 1) * 5 + k by omega, hcell (i - 1) h2 k hk5]; exact hu)
    (by rw [hcell fr h1 2 (by omega)]; rfl) hy.2.1 hE2 hP

theorem row_belowS {W W' : World} {base B e size n : Nat} {v : Value} {xs : List Value} (h : W.ownsRow base e size v n xs) (hb : Below B W W') (hB : W.heap.size ≤ B) : W'.ownsRow base e size v n xs := by
  obtain ⟨h1, h | ⟨g, cap, cur, hv, hg, hh, r⟩⟩ := h
  · exact ⟨h1, Or.inl h⟩
  · exact ⟨h1, Or.inr ⟨g, cap, cur, hv, hg, by rw [hb.block g (Nat.lt_of_lt_of_le (lt_of_block hh) hB)]; exact hh, r⟩⟩
theorem stretch_upto {W : World} {ne : ByteArray → Int} {cs : List Int} {a : Option Addr} {c g cv fr i B : Nat} {toks : List TokG} (hO : RdR B W (.slice a cs.length c) cs) (hB : B ≤ W.heap.size) (hcl : cs.length ≤ 1024) (hg : g < W.heap.size)
    (hi : i < toks.length) (hf : fr ≤ i) (htl : toks.length ≤ cv) (hcv : cv ≤ 9223372036854775807) (htl2 : toks.length ≤ 1025)
    (hcell : ∀ j (hj : j < toks.length) k, k < 5 → W.cell? ⟨g, j * 5 + k, none⟩ = (toks[j]).cells[k]?)
    (hok : ∀ c ∈ cs, okRune c) (ht : toks.map TokG.core = items ne cs) (hE : (lastEr (items ne cs)).1 = 0) (hk : ∀ x ∈ (toks.take i).drop fr, ¬ x.kd = 0) :
    Calls Try.prog 13 #[.slice a cs.length c, .slice (some ⟨g, fr * 5, none⟩) (i - fr) (cv - fr)] W fun e w' => e = .returned (.string (stretchF cs (((toks.take i).drop fr).map TokG.core))) ∧ Below W.heap.size W w' := by
  by_cases he : fr = i
  · subst he
    refine (stretch_nil (n := fr - fr) (by omega) rfl).mono ?_
    rintro e w' ⟨rfl, rfl⟩
    exact ⟨by rw [part_none]; rfl, Below.refl _ _⟩
  · exact stretch_part hO hB hcl hg hi (by omega) htl hcv htl2 hcell hok ht hE hk _ _ rfl rfl
theorem tx_is (x y : ByteArray) (L : List UInt8) (h : y.data.toList = L) : (x.toList == L) = decide (x = y) ∧ (x.toList = L ↔ x = y) := by
  have e : x.toList = L ↔ x = y := by
    rw [ByteArray.toList_eq, ← h]
    exact ⟨fun e => ByteArray.ext (Array.toList_inj.mp e), fun e => by rw [e]⟩
  refine ⟨?_, e⟩
  by_cases hx : x = y
  · rw [decide_eq_true hx, beq_iff_eq]; exact e.2 hx
  · rw [decide_eq_false hx, beq_eq_false_iff_ne]; exact fun h' => hx (e.1 h')
/-- One round: what is left to cut. -/
theorem spl_step {cs : List Int} {toks : List TokG} {i fr op : Nat} (hi : i < toks.length) (hf : fr ≤ i) : spl cs ((toks.drop i).map TokG.core) (((toks.take i).drop fr).map TokG.core) op =
    if (toks[i]).kd = 0 ∨ (toks[i]).tx = diaT ∧ op = 0 then stretchF cs (((toks.take i).drop fr).map TokG.core) :: spl cs ((toks.drop (i + 1)).map TokG.core) (((toks.take (i + 1)).drop (i + 1)).map TokG.core) op
    else if (toks[i]).tx = opT then spl cs ((toks.drop (i + 1)).map TokG.core) (((toks.take (i + 1)).drop fr).map TokG.core) (op + 1)
    else if (toks[i]).tx = clT ∧ 0 < op then spl cs ((toks.drop (i + 1)).map TokG.core) (((toks.take (i + 1)).drop fr).map TokG.core) (op - 1)
    else spl cs ((toks.drop (i + 1)).map TokG.core) (((toks.take (i + 1)).drop fr).map TokG.core) op := by
  rw [part_none, part_step hi hf, rest_step hi, List.map_cons, spl, List.map_append]
  rfl
set_option maxRecDepth 100000 in
set_option maxHeartbeats 6400000 in
theorem lexSplit_any {w : World} {ne : ByteArray → Int} (hne : TellsErr ne) (s : ByteArray) (hs : s.size ≤ 9223372036854775807) :
    Calls Try.prog 9 #[.string s] w fun e w' => SplitIs w (splitF ne s) e w' := by
  obtain ⟨i0, hi, hz0, hz1, hz2⟩ := info_parts info_str
  have HL : Hid ((allF ne s).1.length ≤ 1025) := allF_len ne s
  go_enter Try.func9, Try.ntmps9
  go_wp2_with fail
  refine (all_any hne s hs).mono ?_
  rintro e w1 ⟨v1, base, toks, rfl, hrow, ht, k1⟩
  obtain ⟨av, cv, rfl⟩ := row_form2 hrow
  have hlen : toks.length ≤ 1025 := by
    have := HL.out
    rw [← ht, List.length_map] at this
    exact this
  have s1 := k1.size
  by_cases her : (allF ne s).2.1 = 0
  case neg =>
    have HF : Hid (splitF ne s = ([], (allF ne s).2)) := by unfold Hid splitF; rw [if_neg her]
    have e1 : ((allF ne s).2.1 == 0) = false := by rw [beq_eq_false_iff_ne]; exact her
    clear hrow ht hne HL her
    generalize (allF ne s).2 = ER at *
    obtain ⟨er, at'⟩ := ER
    simp only at e1 HF ⊢
    go_wp2
    refine bodyPost_ret (v := .tuple #[.slice none 0 0, .int .i64 er, .int .i64 ((at' : Nat) : Int)]) (by simp [results, Try.results9, go_sem]) rfl ?_
    exact ⟨.slice none 0 0, by rw [HF.out], by rw [HF.out]; exact World.ownsRow_nil _ _ _ _, k1⟩
  obtain ⟨a1, a2, a3, a4⟩ := allF_ok her
  have HF : Hid (splitF ne s = (spl (scanR s s.size 0 []).1 (allF ne s).1 [] 0, 0, 0)) := by unfold Hid splitF; rw [if_pos her]
  have HOK : Hid (∀ c ∈ (scanR s s.size 0 []).1, okRune c) := scanR_ok s s.size 0 [] (fun c h => by cases h)
  have hcl := scanR_len s s.size 0 [] (by simp) (by omega)
  have HE : Hid ((lastEr (items ne (scanR s s.size 0 []).1)).1 = 0) := a4
  have HTk : Hid (toks.map TokG.core = items ne (scanR s s.size 0 []).1) := ht.trans a3
  rw [← ht] at HF
  rw [her]
  have HROW : Hid (w1.ownsRow base 33 5 (.slice av toks.length cv) toks.length (toks.flatMap TokG.cells)) := hrow
  clear ht hrow HL hne a3 a4 her a2
  generalize (allF ne s).2.2 = AT at *
  go_wp2_with fail
  refine (runes_all s _ (by omega)).mono ?_
  rintro e w2 ⟨cs, a, c, er, at', rfl, hO, HD, k2⟩
  rw [HD.out] at HF HOK hcl HE HTk
  simp only at HF HOK hcl HE HTk
  have HRD : Hid (RdR w2.heap.size w2 (.slice a cs.length c) cs) := hO.rdR
  have s2 := k2.size
  have hcl2 : cs.length ≤ 1024 := by omega
  have HC : Hid (∀ g, av = some ⟨g, 0, none⟩ → g < w1.heap.size → ∀ W, Below w2.heap.size w2 W → ∀ j (hj : j < toks.length) k, k < 5 → W.cell? ⟨g, j * 5 + k, none⟩ = (toks[j]).cells[k]?) := by
    rintro g rfl hg W hW j hj k hk
    have := HROW.out.cellAt (5 * j + k) (by omega)
    rw [show j * 5 + k = 5 * j + k by omega, hW.cell (p := ⟨g, 5 * j + k, none⟩) (by simp; omega), k2.cell (p := ⟨g, 5 * j + k, none⟩) hg, this, flat_get hj k hk]
  clear hO HD hcl hs a1
  go_wp2
  go_loopw [11, 12, 13, 34] (fun ov fv pv iv wr => ∃ (i fr op : Nat) (outs : List ByteArray) (ao : Option Addr) (co : Nat), ov = .slice ao outs.length co ∧ fv = .int .i64 fr ∧ pv = .int .i64 op ∧ iv = .int .i64 i ∧ i ≤ toks.length ∧ fr ≤ i ∧ op ≤ i ∧ outs.length ≤ i ∧ wr.ownsRow w2.heap.size 9 1 (.slice ao outs.length co) outs.length (outs.map Value.string) ∧ Hid (outs ++ spl cs ((toks.drop i).map TokG.core) (((toks.take i).drop fr).map TokG.core) op = spl cs (toks.map TokG.core) [] 0) ∧ Hid (∀ x ∈ (toks.take i).drop fr, ¬ x.kd = 0) ∧ Below w2.heap.size w2 wr) (fun _ _ _ iv _ => toks.length - (intOf iv).toNat)
  case atStart => exact ⟨0, 0, 0, [], none, 0, rfl, rfl, rfl, rfl, Nat.zero_le _, Nat.le_refl _, Nat.le_refl _, Nat.le_refl _, World.ownsRow_nil _ _ _ _, rfl, (by unfold Hid; simp), Below.refl _ _⟩
  case round =>
    obtain ⟨i, fr, op, outs, ao, co, rfl, rfl, rfl, rfl, hil, hfi, hoi, hou, hO, HS, HK, hb⟩ := hrel
    have hsz := hb.size
    by_cases hlt : i < toks.length
    case neg =>
      have HR : Hid (splitF ne s = (outs, 0, 0)) := by
        unfold Hid
        rw [HF.out, ← HS.out, List.drop_of_length_le (by omega)]
        simp [spl]
      have g1 := (k1.trans (k2.mono s1)).trans (hb.mono (by omega))
      clear HS HK HC HF
      go_wp2
      refine bodyPost_ret (v := .tuple #[.slice ao outs.length co, .int .i64 0, .int .i64 0]) (by simp [results, Try.results9, go_sem]) rfl ?_
      exact ⟨.slice ao outs.length co, by rw [HR.out]; rfl, by rw [HR.out]; exact row_mono hO (by omega), g1⟩
    obtain ⟨g, rfl, hc1, hc2, hgl⟩ := row_ptr HROW.out (by omega)
    have HCw : Hid (∀ W, Below w2.heap.size w2 W → ∀ j (hj : j < toks.length) k, k < 5 → W.cell? ⟨g, j * 5 + k, none⟩ = (toks[j]).cells[k]?) := HC.out g rfl hgl
    have hcell := HCw.out wr hb i hlt
    have q0 : wr.cell? ⟨g, i * 5, none⟩ = some (.int .u8 (toks[i]).kd) := hcell 0 (by omega)
    have q1 : wr.cell? ⟨g, i * 5 + 1, none⟩ = some (.string (toks[i]).tx) := hcell 1 (by omega)
    have q2 : wr.cell? ⟨g, i * 5 + 2, none⟩ = some (.int .i64 (toks[i]).pl) := hcell 2 (by omega)
    have q3 : wr.cell? ⟨g, i * 5 + 3, none⟩ = some (.slice (toks[i]).a1 (toks[i]).n1 (toks[i]).c1) := hcell 3 (by omega)
    have q4 : wr.cell? ⟨g, i * 5 + 4, none⟩ = some (.slice (toks[i]).a2 (toks[i]).n2 (toks[i]).c2) := hcell 4 (by omega)
    have HST := spl_step (cs := cs) (op := op) hlt hfi
    have HKN : Hid (¬ (toks[i]).kd = 0 → ∀ x ∈ (toks.take (i + 1)).drop fr, ¬ x.kd = 0) := by
      intro hx x hx2
      rw [part_step hlt hfi, List.mem_append] at hx2
      rcases hx2 with hx2 | hx2
      · exact HK.out x hx2
      · rw [List.mem_singleton.1 hx2]; exact hx
    rw [HST] at HS
    have HKE : Hid (∀ x ∈ (toks.take (i + 1)).drop (i + 1), ¬ x.kd = 0) := by unfold Hid; rw [part_none]; simp
    clear hcell HC HST
    generalize toks[i] = X at *
    have NX := boxA_new wr #[.int .u8 X.kd, .string X.tx, .int .i64 X.pl, .slice X.a1 X.n1 X.c1, .slice X.a2 X.n2 X.c2] 33
    have kx := below_alloc wr (.cells #[.int .u8 X.kd, .string X.tx, .int .i64 X.pl, .slice X.a1 X.n1 X.c1, .slice X.a2 X.n2 X.c2] 33)
    have m0 := NX.cell 0 rfl
    have m1 := NX.cell 1 rfl
    have hbx := hb.trans (kx.mono hsz)
    have hOx := hO.alloc (.cells #[.int .u8 X.kd, .string X.tx, .int .i64 X.pl, .slice X.a1 X.n1 X.c1, .slice X.a2 X.n2 X.c2] 33)
    have TD := tx_is X.tx diaT [226, 139, 132] rfl
    have TO := tx_is X.tx opT [123] rfl
    have TC := tx_is X.tx clT [125] rfl
    obtain ⟨bd, pd⟩ := TD
    obtain ⟨bo, po⟩ := TO
    obtain ⟨bc, pc⟩ := TC
    have hdo : ¬ diaT = opT := by decide
    have hdc : ¬ diaT = clT := by decide
    have hoc : ¬ opT = clT := by decide
    by_cases hcut : X.kd = 0 ∨ X.tx = diaT ∧ op = 0
    · rw [if_pos hcut] at HS
      have hst := stretch_upto (W := wr.alloc (.cells #[.int .u8 X.kd, .string X.tx, .int .i64 X.pl, .slice X.a1 X.n1 X.c1, .slice X.a2 X.n2 X.c2] 33)) (HRD.out.below hbx) (by simp; omega) hcl2 (by simp; omega) hlt hfi hc1 hc2 hlen (HCw.out _ hbx) HOK.out HTk.out HE.out HK.out
      have HST : Hid (Calls Try.prog 13 _ _ _) := hst
      generalize stretchF cs (((toks.take i).drop fr).map TokG.core) = TX at *
      clear hst
      have HS2 : Hid ((outs ++ [TX]) ++ spl cs ((toks.drop (i + 1)).map TokG.core) (((toks.take (i + 1)).drop (i + 1)).map TokG.core) op = spl cs (toks.map TokG.core) [] 0) := by
        unfold Hid
        rw [List.append_assoc]
        exact HS.out
      clear HS
      by_cases h0 : X.kd = 0
      case' pos =>
        have e0 : (X.kd == 0) = true := by rw [beq_iff_eq]; exact h0
      case' neg =>
        obtain ⟨h3, hop⟩ := hcut.resolve_left h0
        have e0 : (X.kd == 0) = false := by rw [beq_eq_false_iff_ne]; exact h0
        have hd3 : X.tx.toList = [226, 139, 132] := pd.2 h3
        rw [decide_eq_true h3] at bd
        obtain rfl := hop
        clear h3
      all_goals
        clear h0 hcut pd po pc hdo hdc hoc HK HKN
        go_wp2_with fail
        refine HST.out.mono ?_
        rintro e w3 ⟨rfl, k3⟩
        have s3 := k3.size
        rw [World.size_alloc] at s3
        have hb3 := hbx.trans (k3.mono (by simp; omega))
        have hO3 := row_belowS hOx k3 (Nat.le_refl _)
        clear HST k3 hbx hOx NX kx m0 m1 q0 q1 q2 q3 q4 hO hb
        go_wp2_with (at_builtin; refine wpList_append_own _ rfl _ _ 36 rfl w2.heap.size 9 i0 (.string ⟨#[]⟩) 1 16 Try.underlying36 hi hz0 hz1 hz2 rfl (by decide) _ _ _ rfl (hO3.alloc _) ⟨_, 0, none⟩ 1 1 [.string TX] rfl rfl ?c1 ?c2 ?c3 ?c4 ?c5 ?_)
        case c1 =>
          intro j u hj
          match j, hj with
          | 0, hj => simp at hj; subst hj; simp [Addr.add]
        case c2 => intro u hu; simp at hu; subst hu; rfl
        case c3 => unfold maxLen; omega
        case c4 => omega
        case c5 => simp; omega
        intro v' w4 hown' hgrow _
        have hO4 : w4.ownsRow w2.heap.size 9 1 v' (outs ++ [TX]).length ((outs ++ [TX]).map Value.string) := by
          rw [List.length_append, List.map_append]; exact hown'
        obtain ⟨a2, c2, rfl⟩ := row_form2 hO4
        have hrow : ∀ k, (Value.slice ao outs.length co).ownBlock = some k → w2.heap.size ≤ k := fun k hk => (hO3.lt k hk).1
        have hb4 : Below w2.heap.size w2 w4 := (hb3.alloc (by omega) _).grown hgrow (by rw [World.size_alloc]; omega) (fun k hk => hrow k hk)
        clear hown' hgrow hO3 hb3 hrow
        go_wp2
        go_roundw
        case rel => first | exact ⟨i + 1, i + 1, op, outs ++ [TX], a2, c2, (by first | rfl | simp), by go_num, rfl, by go_num, by omega, by omega, by omega, (by simp; omega), hO4, HS2, HKE, hb4⟩ | exact ⟨i + 1, i + 1, 0, outs ++ [TX], a2, c2, (by first | rfl | simp), by go_num, rfl, by go_num, by omega, by omega, by omega, (by simp; omega), hO4, HS2, HKE, hb4⟩
        case measure => simp [intOf]; omega
    rw [if_neg hcut] at HS
    have h0 : ¬ X.kd = 0 := fun h => hcut (Or.inl h)
    have HK2 : Hid (∀ x ∈ (toks.take (i + 1)).drop fr, ¬ x.kd = 0) := HKN.out h0
    have e0 : (X.kd == 0) = false := by rw [beq_eq_false_iff_ne]; exact h0
    by_cases h1 : X.tx = opT
    · rw [if_pos h1] at HS
      have nd : ¬ X.tx = diaT := fun h => hdo (h.symm.trans h1)
      have nd2 : ¬ X.tx.toList = [226, 139, 132] := fun h => nd (pd.1 h)
      rw [decide_eq_true h1] at bo
      rw [decide_eq_false nd] at bd
      clear h1 h0 hcut pd po pc bc hdo hdc hoc nd HK HKN HKE
      go_wp2
      go_roundw
      case rel => exact ⟨i + 1, fr, op + 1, outs, ao, co, rfl, rfl, by go_num, by go_num, by omega, by omega, by omega, by omega, hOx, HS, HK2, hbx⟩
      case measure => simp [intOf]; omega
    rw [if_neg h1] at HS
    rw [decide_eq_false h1] at bo
    by_cases h2 : X.tx = clT ∧ 0 < op
    · rw [if_pos h2] at HS
      obtain ⟨h2, hop⟩ := h2
      have nd : ¬ X.tx = diaT := fun h => hdc (h.symm.trans h2)
      have nd2 : ¬ X.tx.toList = [226, 139, 132] := fun h => nd (pd.1 h)
      have hc3 : X.tx.toList = [125] := pc.2 h2
      rw [decide_eq_true h2] at bc
      rw [decide_eq_false nd] at bd
      clear h1 h0 hcut pd po pc h2 hdo hdc hoc nd HK HKN HKE
      go_wp2
      go_roundw
      case rel => exact ⟨i + 1, fr, op - 1, outs, ao, co, rfl, rfl, by go_num, by go_num, by omega, by omega, by omega, by omega, hOx, HS, HK2, hbx⟩
      case measure => simp [intOf]; omega
    rw [if_neg h2] at HS
    by_cases h3 : X.tx = diaT
    · have hop : 0 < op := by
        rcases Nat.eq_zero_or_pos op with h | h
        · exact absurd (Or.inr ⟨h3, h⟩) hcut
        · exact h
      have nc : ¬ X.tx = clT := fun h => hdc (h3.symm.trans h)
      have nc2 : ¬ X.tx.toList = [125] := fun h => nc (pc.1 h)
      have hd3 : X.tx.toList = [226, 139, 132] := pd.2 h3
      rw [decide_eq_true h3] at bd
      rw [decide_eq_false nc] at bc
      clear h0 h1 h2 h3 hcut pd po pc hdo hdc hoc nc HK HKN HKE
      go_wp2
      go_roundw
      case rel => exact ⟨i + 1, fr, op, outs, ao, co, rfl, rfl, rfl, by go_num, by omega, by omega, by omega, by omega, hOx, HS, HK2, hbx⟩
      case measure => simp [intOf]; omega
    have nd2 : ¬ X.tx.toList = [226, 139, 132] := fun h => h3 (pd.1 h)
    rw [decide_eq_false h3] at bd
    by_cases h4 : X.tx = clT
    · have hop : op = 0 := by
        rcases Nat.eq_zero_or_pos op with h | h
        · exact h
        · exact absurd ⟨h4, h⟩ h2
      subst hop
      have hc3 : X.tx.toList = [125] := pc.2 h4
      rw [decide_eq_true h4] at bc
      clear h0 h1 h2 h3 h4 hcut pd po pc hdo hdc hoc HK HKN HKE
      go_wp2
      go_roundw
      case rel => exact ⟨i + 1, fr, 0, outs, ao, co, rfl, rfl, rfl, by go_num, by omega, by omega, by omega, by omega, hOx, HS, HK2, hbx⟩
      case measure => simp [intOf]; omega
    have nc2 : ¬ X.tx.toList = [125] := fun h => h4 (pc.1 h)
    rw [decide_eq_false h4] at bc
    clear h0 h1 h2 h3 h4 hcut pd po pc hdo hdc hoc HK HKN HKE
    go_wp2
    go_roundw
    case rel => exact ⟨i + 1, fr, op, outs, ao, co, rfl, rfl, rfl, by go_num, by omega, by omega, by omega, by omega, hOx, HS, HK2, hbx⟩
    case measure => simp [intOf]; omega
end Go.Proofs.Ytkhmbceadeejpaa
