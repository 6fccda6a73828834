/- nat.takeTimes and nat.addBack: in a window of a row of limbs, f times b taken away, and b added. -/
import Derived.Test.YtibciilhfpgjjadDoorKnuthMath
import Derived.Test.YtibciilhfpgjjadDoorLists
namespace Go.Proofs.YtibciilhfpgjjadDoor
set_option linter.unusedVariables false
set_option linter.unusedSimpArgs false
open Go.RowKit

theorem Kept2.cell {w w' : World} {B b : Nat} (h : Kept2 w w' B none) (hb : b < w.heap.size) (hne : b ≠ B) (o : Nat) : w'.cell? ⟨b, o, none⟩ = w.cell? ⟨b, o, none⟩ :=
  World.cell?_of_block (w := w) (h.block b hb hne (fun e => by cases e))

/-- A row of the call's own that holds limbs A, then U, then C; and limbs ys of another block. -/
structure Win (base g j n L c gb ob : Nat) (w : World) (A U C ys : List Int) : Prop where
  lA : A.length = j
  lU : U.length = n + 1
  lL : (A ++ U ++ C).length = L
  own : Own base w (.slice (some ⟨g, 0, none⟩) L c) (A ++ U ++ C)
  ne : gb ≠ g
  lt : gb < w.heap.size
  ly : lim ys
  lys : ys.length = n
  cell : ∀ i, i < n → w.cell? ⟨gb, ob + i, none⟩ = some (.int .u32 (ys.getD i 0))

section
variable {base g j n L c gb ob : Nat} {w w' : World} {A U C ys : List Int}

theorem Win.at (h : Win base g j n L c gb ob w A U C ys) (i : Nat) (hi : i ≤ n) : w.cell? ⟨g, j + i, none⟩ = some (.int .u32 (U.getD i 0)) := by
  have e := h.own.cellAt h.lL (j + i) (by have := h.lL; have := h.lA; have := h.lU; simp at *; omega)
  rw [win_getD A U C j i h.lA (by rw [h.lU]; omega)] at e
  exact e
theorem Win.free (h : Win base g j n L c gb ob w A U C ys) (i : Nat) : w.frozen? ⟨g, j + i, none⟩ = false := h.own.frozenAt h.lL (j + i)
theorem Win.limU (h : Win base g j n L c gb ob w A U C ys) : lim U := (lim_append.1 (lim_append.1 h.own.lim).1).2
theorem Win.set (h : Win base g j n L c gb ob w A U C ys) (i : Nat) (hi : i ≤ n) (z : Int) (hz : 0 ≤ z ∧ z < 4294967296) : Win base g j n L c gb ob (w.setCell ⟨g, j + i, none⟩ (.int .u32 z)) A (U.set i z) C ys := by
  have e := h.own.stored h.lL (j + i) z hz
  rw [win_set A U C j i z h.lA (by rw [h.lU]; omega)] at e
  refine ⟨h.lA, by rw [List.length_set]; exact h.lU, by have := h.lL; simp at *; exact this, e, h.ne, by simp; exact h.lt, h.ly, h.lys, fun k hk => ?_⟩
  rw [← h.cell k hk]
  exact (Kept2.setCell (Kept2.refl w g none) (p := ⟨g, j + i, none⟩) (Or.inl rfl) _).cell h.lt h.ne _
end

theorem and_mask (x : Int) (h0 : 0 ≤ x) (h1 : x < 18446744073709551616) : bits .and .u64 x 4294967295 = x % 4294967296 :=
  bits_mask .u64 64 (by decide) (fun n a b => by rw [IntKind.wrap_u64]; omega) 32 (by decide) x h0 (by omega)

theorem take_word (V C Y : Int) (hV : 0 ≤ V ∧ V < 4294967296) (hC : 0 ≤ C ∧ C < 4294967296) (hY : 0 ≤ Y ∧ Y ≤ 1) :
    ∃ T z c', IntKind.u64.wrap (IntKind.u64.wrap (V - C) - Y) = T ∧ 0 ≤ T ∧ T < 18446744073709551616 ∧ T % 4294967296 = z ∧ T / 9223372036854775808 = c' ∧ 0 ≤ c' ∧ c' ≤ 1 ∧ (0 ≤ z ∧ z < 4294967296) ∧ V - C - Y = z - c' * 4294967296 := by
  refine ⟨_, _, _, rfl, ?_, ?_, rfl, rfl, ?_, ?_, ?_, ?_⟩
  all_goals (simp only [IntKind.wrap_u64]; omega)

set_option maxRecDepth 100000 in
set_option maxHeartbeats 1600000 in
theorem takeTimes_any {base g j n L c gb ob : Nat} {w : World} {A U C ys : List Int} (f : Int) (cu bc : Nat) (hf0 : 0 ≤ f) (hf1 : f < 4294967296) (hw : Win base g j n L c gb ob w A U C ys) (hn : n ≤ 17592186044415) :
    Calls Tryd.prog 103 #[.slice (some ⟨g, j, none⟩) (n + 1) cu, .slice (some ⟨gb, ob, none⟩) n bc, .int .u64 f] w fun e w' => ∃ U' β, e = .returned (.bool (decide (β = (1 : Int)))) ∧ (β = 0 ∨ β = 1) ∧ val U' - β * pw (n + 1) = val U - f * val ys ∧ Win base g j n L c gb ob w' A U' C ys ∧ Kept2 w w' g none := by
  go_enter Tryd.func103, Tryd.ntmps103
  go_wp2
  go_loopw [16, 7, 8] (fun s cr br wr => ∃ (i : Nat) (K b : Int) (V : List Int), i ≤ n ∧ s = .int .i64 i ∧ cr = .int .u64 K ∧ br = .int .u64 b ∧ 0 ≤ K ∧ K < 4294967296 ∧ 0 ≤ b ∧ b ≤ 1 ∧ Win base g j n L c gb ob wr A V C ys ∧ Kept2 w wr g none ∧ Hid (val V - (K + b) * pw i = val U - f * val (ys.take i)))
    (fun s _ _ _ => n - (intOf s).toNat)
  case atStart => exact ⟨0, 0, 0, U, Nat.zero_le _, rfl, rfl, rfl, by omega, by omega, by omega, by omega, hw, Kept2.refl _ _ _, by unfold Hid; simp [val]⟩
  case round =>
    obtain ⟨i, K, b, V, hin, rfl, rfl, rfl, hK0, hK1, hb0, hb1, hV, hk, hval⟩ := hrel
    have lV := hV.limU
    by_cases hlt : i < n
    · have hcy := hV.cell i hlt
      have ry := lim_getD hV.ly i
      have hcu := hV.at i (by omega)
      have hfu := hV.free i
      have ru := lim_getD lV i
      generalize hY : ys.getD i 0 = Y at *
      generalize hX : V.getD i 0 = X at *
      have HY : Hid (ys.getD i 0 = Y) := hY
      have HX : Hid (V.getD i 0 = X) := hX
      clear hY hX
      have hyf := mul_bound ry ⟨hf0, hf1⟩
      have hp0 : 0 ≤ Y * f + K := by omega
      have hp1 : Y * f + K < 18446744073709551616 := by omega
      have hmask := and_mask (Y * f + K) hp0 hp1
      obtain ⟨T, z, b', eT, t0, t1, ez, eb, b0', b1', zr, heq⟩ := take_word X ((Y * f + K) % 4294967296) b ru (by omega) ⟨hb0, hb1⟩
      have hS := hV.set i (by omega) z zr
      have HEQ : Hid (X - (Y * f + K) % 4294967296 - b = z - b' * 4294967296) := heq
      clear heq
      go_wp2
      go_roundw
      case rel => exact ⟨i + 1, (Y * f + K) / 4294967296, b', V.set i z, by omega, by go_num, rfl, rfl, by omega, by omega, b0', b1', hS, hk.setCell (Or.inl rfl) _, take_step V ys i f K b (val U) (Y * f + K) T z b' (by rw [hV.lU]; omega) (by rw [hV.lys]; omega) hval.out (by rw [HY.out]) (by rw [HX.out]; exact HEQ.out)⟩
      case measure => simp [intOf]; omega
    · obtain rfl : i = n := by omega
      have hcu := hV.at i (by omega)
      have hfu := hV.free i
      have ru := lim_getD lV i
      generalize hX : V.getD i 0 = X at *
      have HX : Hid (V.getD i 0 = X) := hX
      clear hX
      obtain ⟨T, z, b', eT, t0, t1, ez, eb, b0', b1', zr, heq⟩ := take_word X K b ru ⟨hK0, hK1⟩ ⟨hb0, hb1⟩
      have hS := hV.set i (by omega) z zr
      have HEQ : Hid (X - K - b = z - b' * 4294967296) := heq
      clear heq
      go_wp2
      go_ret
      refine ⟨V.set i z, b', ret_bool ?_, by omega, ?_, hS, hk.setCell (Or.inl rfl) _⟩
      · show (b' == 1) = decide (b' = 1)
        rfl
      · refine take_end V i K b _ z b' (by rw [hV.lU]; omega) ?_ (by rw [HX.out]; exact HEQ.out)
        have h1 := hval.out
        rw [List.take_of_length_le (by rw [hV.lys]; omega)] at h1
        exact h1

set_option maxRecDepth 100000 in
set_option maxHeartbeats 1600000 in
theorem addBack_any {base g j n L c gb ob : Nat} {w : World} {A U C ys : List Int} (cu bc : Nat) (hw : Win base g j n L c gb ob w A U C ys) (hn : n ≤ 17592186044415) :
    Calls Tryd.prog 104 #[.slice (some ⟨g, j, none⟩) (n + 1) cu, .slice (some ⟨gb, ob, none⟩) n bc] w fun e w' => ∃ U' k, e = .returned (.tuple #[]) ∧ val U' + k * pw (n + 1) = val U + val ys ∧ Win base g j n L c gb ob w' A U' C ys ∧ Kept2 w w' g none := by
  go_enter Tryd.func104, Tryd.ntmps104
  go_wp2
  go_loopw [10, 4] (fun s cr wr => ∃ (i : Nat) (K : Int) (V : List Int), i ≤ n ∧ s = .int .i64 i ∧ cr = .int .u64 K ∧ 0 ≤ K ∧ K ≤ 1 ∧ Win base g j n L c gb ob wr A V C ys ∧ Kept2 w wr g none ∧ Hid (val V + K * pw i = val U + val (ys.take i)))
    (fun s _ _ => n - (intOf s).toNat)
  case atStart => exact ⟨0, 0, U, Nat.zero_le _, rfl, rfl, by omega, by omega, hw, Kept2.refl _ _ _, by unfold Hid; simp [val]⟩
  case round =>
    obtain ⟨i, K, V, hin, rfl, rfl, hK0, hK1, hV, hk, hval⟩ := hrel
    have lV := hV.limU
    by_cases hlt : i < n
    · have hcy := hV.cell i hlt
      have ry := lim_getD hV.ly i
      have hcu := hV.at i (by omega)
      have hfu := hV.free i
      have ru := lim_getD lV i
      generalize hY : ys.getD i 0 = Y at *
      generalize hX : V.getD i 0 = X at *
      have HY : Hid (ys.getD i 0 = Y) := hY
      have HX : Hid (V.getD i 0 = X) := hX
      clear hY hX
      have hS := hV.set i (by omega) ((X + Y + K) % 4294967296) (by omega)
      go_wp2
      go_roundw
      case rel => exact ⟨i + 1, (X + Y + K) / 4294967296, V.set i ((X + Y + K) % 4294967296), by omega, by go_num, rfl, by omega, by omega, hS, hk.setCell (Or.inl rfl) _, back_step V ys i K (val U) _ (by rw [hV.lU]; omega) (by rw [hV.lys]; omega) hval.out (by rw [HY.out, HX.out])⟩
      case measure => simp [intOf]; omega
    · obtain rfl : i = n := by omega
      have hcu := hV.at i (by omega)
      have hfu := hV.free i
      have ru := lim_getD lV i
      generalize hX : V.getD i 0 = X at *
      have HX : Hid (V.getD i 0 = X) := hX
      clear hX
      have hS := hV.set i (by omega) ((X + K) % 4294967296) (by omega)
      go_wp2
      go_end0
      refine ⟨V.set i ((X + K) % 4294967296), (X + K) / 4294967296, rfl, ?_, ?_, ?_⟩
      · refine back_end V i K _ _ (by rw [hV.lU]; omega) ?_ (by rw [HX.out])
        have h1 := hval.out
        rw [List.take_of_length_le (by rw [hV.lys]; omega)] at h1
        exact h1
      · exact hS
      · exact hk.setCell (Or.inl rfl) _
end Go.Proofs.YtibciilhfpgjjadDoor
