/- Characters that are written as bytes are read again. -/
import Derived.Test.YtimfnalpmmkndaaGreatDoorLA
import Derived.Test.YtimfnalpmmkndaaGreatDoorL2
namespace Go.Proofs.YtimfnalpmmkndaaGreatDoor
set_option linter.unusedVariables false
set_option linter.unusedSimpArgs false
open Go.RowKit

theorem enc_list (c : Int) (hc : okRune c) : (Utf8.encode c).data.toList =
    if c.toNat < 128 then [UInt8.ofNat c.toNat] else if c.toNat < 2048 then [UInt8.ofNat (192 + c.toNat / 64), UInt8.ofNat (128 + c.toNat % 64)]
    else if c.toNat < 65536 then [UInt8.ofNat (224 + c.toNat / 4096), UInt8.ofNat (128 + c.toNat / 64 % 64), UInt8.ofNat (128 + c.toNat % 64)]
    else [UInt8.ofNat (240 + c.toNat / 262144), UInt8.ofNat (128 + c.toNat / 4096 % 64), UInt8.ofNat (128 + c.toNat / 64 % 64), UInt8.ofNat (128 + c.toNat % 64)] := by
 have hv : Utf8.valid c = true := by
  unfold okRune at hc
  simp [Utf8.valid]
  omega
 unfold Utf8.encode
 simp only [hv, if_true]
 repeat' split
 all_goals rfl
theorem okRune_le {c : Int} (hc : okRune c) : c.toNat ≤ 1114111 ∧ (c.toNat < 55296 ∨ 57344 ≤ c.toNat) := by
 unfold okRune at hc
 omega
theorem nat_byte (n : Nat) (h : n < 256) : (UInt8.ofNat n).toNat = n := by simp; omega
set_option maxRecDepth 100000 in
set_option maxHeartbeats 4000000 in
theorem enc_dec (c : Int) (hc : okRune c) (t : List UInt8) : Lib.decodeL ((Utf8.encode c).data.toList ++ t) = (c.toNat, (Utf8.encode c).data.toList.length) := by
 have hr := okRune_le hc
 rw [enc_list c hc]
 generalize c.toNat = n at *
 by_cases h1 : n < 128
 · rw [if_pos h1, Lib.decodeL_N]
   simp only [List.cons_append, List.nil_append, List.getD_cons_zero, List.length_cons, List.length_nil]
   rw [nat_byte n (by omega)]
   unfold Lib.decodeN
   rw [if_pos h1]
 rw [if_neg h1]
 by_cases h2 : n < 2048
 · rw [if_pos h2, Lib.decodeL_N]
   simp only [List.cons_append, List.nil_append, List.getD_cons_zero, List.getD_cons_succ, List.length_cons, List.length_nil]
   rw [nat_byte (192 + n / 64) (by omega), nat_byte (128 + n % 64) (by omega)]
   unfold Lib.decodeN
   rw [if_neg (by omega), if_pos (by omega), if_pos (by omega)]
   apply Prod.ext <;> simp only <;> omega
 rw [if_neg h2]
 by_cases h3 : n < 65536
 · rw [if_pos h3, Lib.decodeL_N]
   simp only [List.cons_append, List.nil_append, List.getD_cons_zero, List.getD_cons_succ, List.length_cons, List.length_nil]
   rw [nat_byte (224 + n / 4096) (by omega), nat_byte (128 + n / 64 % 64) (by omega), nat_byte (128 + n % 64) (by omega)]
   unfold Lib.decodeN
   rw [if_neg (by omega), if_neg (by omega), if_pos (by omega), if_pos (by omega)]
   apply Prod.ext <;> simp only <;> omega
 rw [if_neg h3, Lib.decodeL_N]
 simp only [List.cons_append, List.nil_append, List.getD_cons_zero, List.getD_cons_succ, List.length_cons, List.length_nil]
 rw [nat_byte (240 + n / 262144) (by omega), nat_byte (128 + n / 4096 % 64) (by omega), nat_byte (128 + n / 64 % 64) (by omega), nat_byte (128 + n % 64) (by omega)]
 unfold Lib.decodeN
 rw [if_neg (by omega), if_neg (by omega), if_neg (by omega), if_pos (by omega), if_pos (by omega)]
 apply Prod.ext <;> simp only <;> omega
theorem enc_len (c : Int) (hc : okRune c) : 1 ≤ (Utf8.encode c).data.toList.length ∧ (Utf8.encode c).data.toList.length ≤ 4 ∧ (c.toNat = 65533 → (Utf8.encode c).data.toList.length = 3) := by
 rw [enc_list c hc]
 repeat' split
 all_goals simp
 all_goals omega
theorem runesBytes_nil : (runesBytes []).data.toList = [] := rfl
theorem scan_from (s : ByteArray) : ∀ (l : List Int) (pre : List UInt8) (acc : List Int) (f : Nat), (∀ c ∈ l, okRune c) → s.data.toList = pre ++ (runesBytes l).data.toList → s.size ≤ pre.length + f → scanR s f pre.length acc = (acc ++ l, 0, 0)
 | [], pre, acc, f, _, hs, hf => by
  have hsz : s.data.toList.length = s.size := by simp
  rw [runesBytes_nil, List.append_nil] at hs
  rw [hs] at hsz
  cases f with
  | zero => rw [scanR, List.append_nil]
  | succ f => rw [scanR, if_neg (by omega), List.append_nil]
 | c :: l, pre, acc, f, hok, hs, hf => by
  have hc := hok c (by simp)
  have hlen := enc_len c hc
  have hsz : s.data.toList.length = s.size := by simp
  rw [runesBytes_cons] at hs
  have hl := congrArg List.length hs
  rw [List.length_append, List.length_append, hsz] at hl
  have hd : Utf8.decode s pre.length = (c.toNat, (Utf8.encode c).data.toList.length) := by
   rw [← Lib.decodeL_drop, hs, List.drop_left]
   exact enc_dec c hc _
  obtain ⟨f, rfl⟩ : ∃ g, f = g + 1 := ⟨f - 1, by omega⟩
  have hcn : ((c.toNat : Nat) : Int) = c := by unfold okRune at hc; omega
  rw [scanR, if_pos (by omega), hd]
  simp only
  rw [if_neg (fun h => by have := hlen.2.2 h.1; omega), hcn]
  have e : pre.length + (Utf8.encode c).data.toList.length = (pre ++ (Utf8.encode c).data.toList).length := by simp
  rw [e, scan_from s l (pre ++ (Utf8.encode c).data.toList) (acc ++ [c]) f (fun d hd => hok d (by simp [hd])) (by rw [hs, List.append_assoc]) (by rw [List.length_append]; omega)]
  simp
theorem scan_back (l : List Int) (hok : ∀ c ∈ l, okRune c) : scanR (runesBytes l) (runesBytes l).size 0 [] = (l, 0, 0) := by
 have := scan_from (runesBytes l) l [] [] (runesBytes l).size hok (by simp) (by simp)
 simpa using this
end Go.Proofs.YtimfnalpmmkndaaGreatDoor

/- lex.Count; slices.Contains of kinds. -/
namespace Go.Proofs.YtimfnalpmmkndaaGreatDoor
set_option linter.unusedVariables false
set_option linter.unusedSimpArgs false
open Go.RowKit Go.Shelf

theorem row_ptr {W : World} {base e size n : Nat} {a : Option Addr} {c : Nat} {xs : List Value} (h : W.ownsRow base e size (.slice a n c) n xs) (h0 : 0 < n) : ∃ g, a = some ⟨g, 0, none⟩ ∧ n ≤ c ∧ c ≤ 9223372036854775807 ∧ g < W.heap.size := by
 obtain ⟨_, h | ⟨g, cap, cur, hv, hg, hh, h1, h2, _, _⟩⟩ := h
 · obtain ⟨_, h3, _⟩ := Value.slice.inj h.1; omega
 · obtain ⟨rfl, _, rfl⟩ := Value.slice.inj hv
   exact ⟨g, rfl, h1, by unfold maxLen at h2; omega, lt_of_block hh⟩

theorem allF_len (ne : ByteArray → Int) (s : ByteArray) : (allF ne s).1.length ≤ 1025 := by
 unfold allF
 by_cases h1 : 1024 < s.size
 · rw [if_pos h1]; simp
 rw [if_neg h1]
 by_cases h2 : ¬ (scanR s s.size 0 []).2.1 = 0
 · rw [if_pos h2]; simp
 rw [if_neg h2]
 by_cases h3 : (lastEr (items ne (scanR s s.size 0 []).1)).1 = 0
 · rw [if_pos h3]
   have h4 := scanR_len s s.size 0 [] (by simp) (by omega)
   have h5 : (items ne (scanR s s.size 0 []).1).length ≤ _ := itemsF_len ne (scanR s s.size 0 []).1 _ _
   simp only
   omega
 · rw [if_neg h3]; simp

end Go.Proofs.YtimfnalpmmkndaaGreatDoor

/- Cutting at diamonds: what is meant. -/
namespace Go.Proofs.YtimfnalpmmkndaaGreatDoor
set_option linter.unusedVariables false
set_option linter.unusedSimpArgs false
open Go.RowKit

def diaT : ByteArray := ⟨#[226, 139, 132]⟩
def opT : ByteArray := ⟨#[123]⟩
def clT : ByteArray := ⟨#[125]⟩
end Go.Proofs.YtimfnalpmmkndaaGreatDoor

/- What lex.Split answers; tokens in a row. -/
namespace Go.Proofs.YtimfnalpmmkndaaGreatDoor
set_option linter.unusedVariables false
set_option linter.unusedSimpArgs false
open Go.RowKit Go.Shelf

theorem allF_ok {ne : ByteArray → Int} {s : ByteArray} (h : (allF ne s).2.1 = 0) : s.size ≤ 1024 ∧ (scanR s s.size 0 []).2.1 = 0 ∧ (allF ne s).1 = items ne (scanR s s.size 0 []).1 ∧ (lastEr (items ne (scanR s s.size 0 []).1)).1 = 0 := by
 unfold allF at h ⊢
 by_cases h1 : 1024 < s.size
 · rw [if_pos h1] at h; exact absurd h (by decide)
 rw [if_neg h1] at h ⊢
 by_cases h2 : ¬ (scanR s s.size 0 []).2.1 = 0
 · rw [if_pos h2] at h; exact absurd h h2
 rw [if_neg h2] at h ⊢
 by_cases h3 : (lastEr (items ne (scanR s s.size 0 []).1)).1 = 0
 · rw [if_pos h3]; exact ⟨by omega, by omega, rfl, h3⟩
 · rw [if_neg h3] at h; exact absurd h h3
theorem itemsF_er (ne : ByteArray → Int) (cs : List Int) : ∀ f i, (lastEr (itemsF ne cs f i)).1 = 0 → ∀ x ∈ itemsF ne cs f i, x.2.2.2 = 0
 | 0, i, _, x, hx => by rw [itemsF] at hx; cases hx
 | f + 1, i, h, x, hx => by
  rw [itemsF] at h hx
  by_cases h1 : i < cs.length
  · rw [if_pos h1] at h hx
    by_cases h2 : (nextF ne cs i).2.2 = 0
    · rw [if_pos h2] at h hx
      have h3 : (lastEr (itemsF ne cs f (passTo cs (nextF ne cs i).2.1))).1 = 0 := by
       unfold lastEr at h ⊢
       cases hl : itemsF ne cs f (passTo cs (nextF ne cs i).2.1) with
       | nil => simp
       | cons y l =>
        rw [hl] at h
        rw [List.getLast?_cons_cons] at h
        exact h
      rcases List.mem_cons.1 hx with rfl | hx
      · rfl
      · exact itemsF_er ne cs f _ h3 x hx
    · rw [if_neg h2] at h hx
      rw [List.mem_singleton.1 hx]
      exact h
  · rw [if_neg h1] at hx
    rw [List.mem_singleton.1 hx]
end Go.Proofs.YtimfnalpmmkndaaGreatDoor
