/- slices.Clone, Grow, Concat, IndexFunc, DeleteFunc of texts. -/
import Derived.Test.YtadkbcehhdcfaaaDoorRB
import Derived.Test.YtadkbcehhdcfaaaDoorJ1
import Derived.Test.YtadkbcehhdcfaaaDoorRI
namespace Go.Proofs.YtadkbcehhdcfaaaDoor
set_option linter.unusedVariables false
set_option linter.unusedSimpArgs false
open Go.RowKit

theorem sl_nil (w : World) (a : Option Addr) (n c : Nat) : (binOp .eql 31 (.slice a n c) (.slice none 0 0)).run Tryd.prog w = .ok (.bool a.isNone) w := Lib.run_eql_slice_nil w 31 9 a n c 0 0 Tryd.underlying31
theorem owS_empty (w : World) : OwS w.heap.size (w.alloc (.cells #[] 9)) (.slice (some ⟨w.heap.size, 0, none⟩) 0 0) [] := ⟨rfl, Or.inr ⟨w.heap.size, 0, #[], rfl, Nat.le_refl _, heap_alloc_new w _, Nat.le_refl _, by unfold maxLen; omega, rfl, rfl⟩⟩
theorem row_cut {W : World} {base e n cap g k : Nat} {xs : List Value} (h : W.ownsRow base e 1 (.slice (some ⟨g, 0, none⟩) n cap) n xs) (hk : k ≤ n) : W.ownsRow base e 1 (.slice (some ⟨g, 0, none⟩) k cap) k (xs.take k) := by
  obtain ⟨h1, ⟨hv, _⟩ | ⟨g', cap', cur, hv, hg, hh, r1, r2, r3, r4⟩⟩ := h
  · cases hv
  · obtain ⟨hv1, hv2, rfl⟩ := Value.slice.inj hv
    cases hv1
    refine ⟨by rw [List.length_take]; omega, Or.inr ⟨g, cap, cur, rfl, hg, hh, by omega, r2, r3, ?_⟩⟩
    rw [← r4, List.take_take, Nat.min_eq_left (by omega), Nat.mul_one]
theorem wpList_append_zerosS {w : World} {ops : Array Oper} {rest : List Oper} {o : Oper} {a : Act} {Q : Exit → Act → World → Prop} (hgd : o.guard = none) (s x : Operand)
    (ho : o.op = .call { callee := .builtin .append, args := #[s, x], argTypes := #[31, 3] }) (hs : a.eval s = .slice none 0 0) (n : Nat) (hx : a.eval x = .int .i64 n) (h0 : 0 < n) (hn : n ≤ 1000000)
    (h : ∀ g cap w', OwS w.heap.size w' (.slice (some ⟨g, 0, none⟩) 0 cap) [] → Below w.heap.size w w' → n ≤ cap → cap ≤ 9223372036854775807 → wpList Tryd.prog ops Q rest (a.put o.dst (.slice (some ⟨g, 0, none⟩) n cap)) w') : wpList Tryd.prog ops Q (o :: rest) a w := by
  refine wpList_plain hgd fun K hK => ?_
  obtain ⟨i0, hi, hz0, hz1, hz2⟩ := info_parts info_strS
  obtain ⟨g, cap, w', hr, r1, r2⟩ := run_append_own_zeros (P := Tryd.prog) w w.heap.size 31 3 o.type 9 i0 (.string ⟨#[]⟩) .i64 .i64 Tryd.underlying31 Tryd.underlying3 hi hz0 hz1 rfl rfl (.slice none 0 0) 0 [] (World.ownsRow_nil _ _ _ _) n h0 (by unfold maxLen; omega) (by rw [hz2]; omega) (Nat.le_refl _)
  have HB : Below w.heap.size w w' := (Below.refl _ _).grown r2 (Nat.le_refl _) (fun k hk => by cases hk)
  rw [Nat.zero_add] at r1 hr
  obtain ⟨_, ⟨hv, _⟩ | ⟨g', cap', cur, hv, hg, hh, q1, q2, q3, q4⟩⟩ := id r1
  · cases hv
  obtain ⟨hv1, _, rfl⟩ := Value.slice.inj hv
  unfold Oper.wp
  simp [execOp, ho, resolve, invoke, builtin, hs, hx, hr, Result.andThen]
  exact hK _ _ (h g cap w' (row_cut r1 (Nat.zero_le _)) HB q1 q2)
set_option maxRecDepth 100000 in
set_option maxHeartbeats 4000000 in
theorem grow_strs {w : World} (n : Nat) (hn : n ≤ 1000000) :
    Calls Tryd.prog 40 #[.slice none 0 0, .int .i64 n] w fun e w' => ∃ v, e = .returned v ∧ OwS w.heap.size w' v [] ∧ Below w.heap.size w w' := by
  rcases Nat.eq_zero_or_pos n with rfl | h0
  · go_enter Tryd.func40, Tryd.ntmps40
    go_wp2
    go_ret
    exact ⟨_, rfl, World.ownsRow_nil _ _ _ _, Below.refl _ _⟩
  have h1 : (0 : Int) < (n : Int) := by omega
  go_enter Tryd.func40, Tryd.ntmps40
  go_wp2_with (at_builtin; refine wpList_append_zerosS rfl _ _ rfl rfl n rfl h0 hn ?_)
  intro g cap w' hO hB h2 h3
  go_wp2
  go_ret
  exact ⟨_, rfl, hO, hB⟩
/-- The rows of a row of rows, one behind the other. -/
def RdSS (B : Nat) (w : World) (g o : Nat) (vs : List Value) (R : List (List ByteArray)) : Prop := vs.length = R.length ∧ ∀ j, j < R.length → w.cell? ⟨g, o + j, none⟩ = some (vs.getD j (.bool false)) ∧ RdS B w (vs.getD j (.bool false)) (R.getD j [])
theorem sum_take {R : List (List ByteArray)} {i : Nat} (hi : i < R.length) : ((R.take (i + 1)).map List.length).sum = ((R.take i).map List.length).sum + (R.getD i []).length := by
  rw [List.take_add_one, List.getElem?_eq_getElem hi, List.map_append, List.sum_append, List.getD_eq_getElem?_getD, List.getElem?_eq_getElem hi]
  simp only [Option.toList, List.map_cons, List.map_nil, List.sum_cons, List.sum_nil, Nat.add_zero, Option.getD_some]
theorem flat_take {R : List (List ByteArray)} {i : Nat} (hi : i < R.length) : (R.take (i + 1)).flatten = (R.take i).flatten ++ R.getD i [] := by
  rw [List.take_add_one, List.getElem?_eq_getElem hi, List.flatten_append, List.getD_eq_getElem?_getD, List.getElem?_eq_getElem hi]
  simp only [Option.toList, List.flatten_cons, List.flatten_nil, List.append_nil, Option.getD_some]
theorem sum_le {R : List (List ByteArray)} (i : Nat) : ((R.take i).map List.length).sum ≤ (R.map List.length).sum := by
  have e : (R.map List.length).sum = ((R.take i).map List.length).sum + ((R.drop i).map List.length).sum := by rw [← List.sum_append, ← List.map_append, List.take_append_drop]
  omega
theorem flat_len (R : List (List ByteArray)) : R.flatten.length = (R.map List.length).sum := by simp [List.length_flatten]
set_option maxRecDepth 100000 in
set_option maxHeartbeats 8000000 in
theorem concat_strs {B : Nat} {w : World} {g o : Nat} {vs : List Value} {R : List (List ByteArray)} (h : RdSS B w g o vs R) (hB : B ≤ w.heap.size) (hg : g < w.heap.size) (hR : R.length ≤ 1000) (hl : (R.map List.length).sum ≤ 1000000) {c : Nat} (hc : R.length ≤ c) (hc2 : c ≤ 9223372036854775807) :
    Calls Tryd.prog 28 #[.slice (some ⟨g, o, none⟩) R.length c] w fun e w' => ∃ v, e = .returned v ∧ OwS w.heap.size w' v R.flatten ∧ Below w.heap.size w w' := by
  have HR : Hid (RdSS B w g o vs R) := h
  have HL : Hid ((R.map List.length).sum ≤ 1000000) := hl
  clear h hl
  go_enter Tryd.func28, Tryd.ntmps28
  go_wp2
  go_loopw [3, 11] (fun sv iv wr => ∃ (i s : Nat), iv = .int .i64 i ∧ sv = .int .i64 s ∧ i ≤ R.length ∧ Hid (s = ((R.take i).map List.length).sum) ∧ wr = w) (fun _ iv _ => R.length - (intOf iv).toNat)
  case atStart => exact ⟨0, 0, rfl, rfl, Nat.zero_le _, rfl, rfl⟩
  case round =>
    obtain ⟨i, s, rfl, rfl, hil, HS, hw⟩ := hrel
    obtain rfl := hw.symm
    by_cases hlt : i < R.length
    · obtain ⟨q1, q2⟩ := HR.out.2 i hlt
      obtain ⟨a, c1, e1, hc1, hc3⟩ := q2.form
      rw [e1] at q1
      have hs2 : s + (R.getD i []).length ≤ 1000000 := by
        have := HS.out
        have h2 := sum_le (R := R) (i + 1)
        rw [sum_take hlt] at h2
        have := HL.out
        omega
      have HS2 : Hid (s + (R.getD i []).length = ((R.take (i + 1)).map List.length).sum) := by
        unfold Hid
        rw [sum_take hlt, ← HS.out]
      generalize (R.getD i []).length = m at *
      clear q2 e1 HS
      have hlt0 : ¬ ((s : Int) + (m : Int) < 0) := by omega
      go_wp2
      go_roundw
      case rel => exact ⟨i + 1, s + m, by go_num, by go_num, by omega, HS2, trivial⟩
      case measure => simp [intOf]; omega
    obtain rfl : i = R.length := by omega
    have hs2 : s ≤ 1000000 := by
      have := HS.out
      rw [List.take_length] at this
      have := HL.out
      omega
    clear HS
    go_wp2_with fail
    refine (grow_strs (w := w) s hs2).mono ?_
    rintro e w1 ⟨v1, rfl, hO, k1⟩
    obtain ⟨a1, c1, rfl⟩ := row_form2S hO
    have s1 := k1.size
    go_wp2
    go_loopw [6, 27] (fun sv iv wr => ∃ (i : Nat) (xs : List ByteArray), iv = .int .i64 i ∧ i ≤ R.length ∧ Hid (xs = (R.take i).flatten) ∧ OwS w.heap.size wr sv xs ∧ Below w.heap.size w wr) (fun _ iv _ => R.length - (intOf iv).toNat)
    case atStart => exact ⟨0, [], rfl, Nat.zero_le _, rfl, hO, k1⟩
    case round =>
      obtain ⟨i, xs, rfl, hil, HX, hO2, k2⟩ := hrel
      obtain ⟨a2, c2, rfl⟩ := row_form2S hO2
      by_cases hlt : i < R.length
      · obtain ⟨q1, q2⟩ := HR.out.2 i hlt
        have q3 := k2.cell (p := ⟨g, o + i, none⟩) hg
        rw [q1] at q3
        have q4 := q2.below k2 hB
        obtain ⟨a, c3, e1, hc4, hc5⟩ := q2.form
        rw [e1] at q1 q3 q4
        have hxl : xs.length + (R.getD i []).length ≤ 1000000 := by
          have h1 := HX.out
          have h2 := sum_le (R := R) (i + 1)
          rw [sum_take hlt, ← flat_len, ← h1] at h2
          have := HL.out
          omega
        have HX2 : Hid (xs ++ R.getD i [] = (R.take (i + 1)).flatten) := by
          unfold Hid
          rw [flat_take hlt, ← HX.out]
        clear q1 q2 e1 HX
        generalize R.getD i [] = ys at *
        have HQ : Hid (RdS B wr (.slice a ys.length c3) ys) := q4
        clear q4
        go_wp2_with (at_builtin; refine append_strs rfl _ _ rfl rfl rfl hO2 HQ.out (by omega) (by have := k2.size; omega) ?_)
        intro v' w' hO3 hgr
        have k3 : Below w.heap.size w w' := k2.grown hgr k2.size (fun k hk => (hO2.lt k hk).1)
        go_wp2
        go_roundw
        case rel => exact ⟨i + 1, xs ++ ys, by go_num, by omega, HX2, hO3, k3⟩
        case measure => simp [intOf]; omega
      obtain rfl : i = R.length := by omega
      have HX2 : Hid (xs = R.flatten) := by
        have := HX.out
        rw [List.take_length] at this
        exact this
      clear HX
      go_wp2
      go_ret
      exact ⟨_, rfl, by rw [← HX2.out]; exact hO2, k2⟩
end Go.Proofs.YtadkbcehhdcfaaaDoor

/- slices.Concat of texts, as long as memory may be. -/
namespace Go.Proofs.YtadkbcehhdcfaaaDoor
set_option linter.unusedVariables false
set_option linter.unusedSimpArgs false
open Go.RowKit

theorem wpList_append_zerosSL {w : World} {ops : Array Oper} {rest : List Oper} {o : Oper} {a : Act} {Q : Exit → Act → World → Prop} (hgd : o.guard = none) (s x : Operand)
    (ho : o.op = .call { callee := .builtin .append, args := #[s, x], argTypes := #[31, 3] }) (hs : a.eval s = .slice none 0 0) (n : Nat) (hx : a.eval x = .int .i64 n) (h0 : 0 < n) (hn : n * 16 ≤ 140737488355328)
    (h : ∀ g cap w', OwS w.heap.size w' (.slice (some ⟨g, 0, none⟩) 0 cap) [] → Below w.heap.size w w' → n ≤ cap → cap ≤ 9223372036854775807 → wpList Tryd.prog ops Q rest (a.put o.dst (.slice (some ⟨g, 0, none⟩) n cap)) w') : wpList Tryd.prog ops Q (o :: rest) a w := by
  refine wpList_plain hgd fun K hK => ?_
  obtain ⟨i0, hi, hz0, hz1, hz2⟩ := info_parts info_strS
  obtain ⟨g, cap, w', hr, r1, r2⟩ := run_append_own_zeros (P := Tryd.prog) w w.heap.size 31 3 o.type 9 i0 (.string ⟨#[]⟩) .i64 .i64 Tryd.underlying31 Tryd.underlying3 hi hz0 hz1 rfl rfl (.slice none 0 0) 0 [] (World.ownsRow_nil _ _ _ _) n h0 (by unfold maxLen; omega) (by rw [hz2]; omega) (Nat.le_refl _)
  have HB : Below w.heap.size w w' := (Below.refl _ _).grown r2 (Nat.le_refl _) (fun k hk => by cases hk)
  rw [Nat.zero_add] at r1 hr
  obtain ⟨_, ⟨hv, _⟩ | ⟨g', cap', cur, hv, hg, hh, q1, q2, q3, q4⟩⟩ := id r1
  · cases hv
  obtain ⟨hv1, _, rfl⟩ := Value.slice.inj hv
  unfold Oper.wp
  simp [execOp, ho, resolve, invoke, builtin, hs, hx, hr, Result.andThen]
  exact hK _ _ (h g cap w' (row_cut r1 (Nat.zero_le _)) HB q1 q2)
set_option maxRecDepth 100000 in
set_option maxHeartbeats 4000000 in
theorem grow_strsL {w : World} (n : Nat) (hn : n * 16 ≤ 140737488355328) :
    Calls Tryd.prog 40 #[.slice none 0 0, .int .i64 n] w fun e w' => ∃ v, e = .returned v ∧ OwS w.heap.size w' v [] ∧ Below w.heap.size w w' := by
  rcases Nat.eq_zero_or_pos n with rfl | h0
  · go_enter Tryd.func40, Tryd.ntmps40
    go_wp2
    go_ret
    exact ⟨_, rfl, World.ownsRow_nil _ _ _ _, Below.refl _ _⟩
  have h1 : (0 : Int) < (n : Int) := by omega
  go_enter Tryd.func40, Tryd.ntmps40
  go_wp2_with (at_builtin; refine wpList_append_zerosSL rfl _ _ rfl rfl n rfl h0 hn ?_)
  intro g cap w' hO hB h2 h3
  go_wp2
  go_ret
  exact ⟨_, rfl, hO, hB⟩
set_option maxRecDepth 100000 in
set_option maxHeartbeats 8000000 in
theorem concat_strsL {B : Nat} {w : World} {g o : Nat} {vs : List Value} {R : List (List ByteArray)} (h : RdSS B w g o vs R) (hB : B ≤ w.heap.size) (hg : g < w.heap.size) (hR : R.length ≤ 1000) (hl : (R.map List.length).sum * 16 ≤ 140737488355328) {c : Nat} (hc : R.length ≤ c) (hc2 : c ≤ 9223372036854775807) :
    Calls Tryd.prog 28 #[.slice (some ⟨g, o, none⟩) R.length c] w fun e w' => ∃ v, e = .returned v ∧ OwS w.heap.size w' v R.flatten ∧ Below w.heap.size w w' := by
  have HR : Hid (RdSS B w g o vs R) := h
  have HL : Hid ((R.map List.length).sum * 16 ≤ 140737488355328) := hl
  clear h hl
  go_enter Tryd.func28, Tryd.ntmps28
  go_wp2
  go_loopw [3, 11] (fun sv iv wr => ∃ (i s : Nat), iv = .int .i64 i ∧ sv = .int .i64 s ∧ i ≤ R.length ∧ Hid (s = ((R.take i).map List.length).sum) ∧ wr = w) (fun _ iv _ => R.length - (intOf iv).toNat)
  case atStart => exact ⟨0, 0, rfl, rfl, Nat.zero_le _, rfl, rfl⟩
  case round =>
    obtain ⟨i, s, rfl, rfl, hil, HS, hw⟩ := hrel
    obtain rfl := hw.symm
    by_cases hlt : i < R.length
    · obtain ⟨q1, q2⟩ := HR.out.2 i hlt
      obtain ⟨a, c1, e1, hc1, hc3⟩ := q2.form
      rw [e1] at q1
      have hs2 : s + (R.getD i []).length ≤ 8796093022208 := by
        have := HS.out
        have h2 := sum_le (R := R) (i + 1)
        rw [sum_take hlt] at h2
        have := HL.out
        omega
      have HS2 : Hid (s + (R.getD i []).length = ((R.take (i + 1)).map List.length).sum) := by
        unfold Hid
        rw [sum_take hlt, ← HS.out]
      generalize (R.getD i []).length = m at *
      clear q2 e1 HS
      have hlt0 : ¬ ((s : Int) + (m : Int) < 0) := by omega
      go_wp2
      go_roundw
      case rel => exact ⟨i + 1, s + m, by go_num, by go_num, by omega, HS2, trivial⟩
      case measure => simp [intOf]; omega
    obtain rfl : i = R.length := by omega
    have hs2 : s * 16 ≤ 140737488355328 := by
      have := HS.out
      rw [List.take_length] at this
      have := HL.out
      omega
    clear HS
    go_wp2_with fail
    refine (grow_strsL (w := w) s hs2).mono ?_
    rintro e w1 ⟨v1, rfl, hO, k1⟩
    obtain ⟨a1, c1, rfl⟩ := row_form2S hO
    have s1 := k1.size
    go_wp2
    go_loopw [6, 27] (fun sv iv wr => ∃ (i : Nat) (xs : List ByteArray), iv = .int .i64 i ∧ i ≤ R.length ∧ Hid (xs = (R.take i).flatten) ∧ OwS w.heap.size wr sv xs ∧ Below w.heap.size w wr) (fun _ iv _ => R.length - (intOf iv).toNat)
    case atStart => exact ⟨0, [], rfl, Nat.zero_le _, rfl, hO, k1⟩
    case round =>
      obtain ⟨i, xs, rfl, hil, HX, hO2, k2⟩ := hrel
      obtain ⟨a2, c2, rfl⟩ := row_form2S hO2
      by_cases hlt : i < R.length
      · obtain ⟨q1, q2⟩ := HR.out.2 i hlt
        have q3 := k2.cell (p := ⟨g, o + i, none⟩) hg
        rw [q1] at q3
        have q4 := q2.below k2 hB
        obtain ⟨a, c3, e1, hc4, hc5⟩ := q2.form
        rw [e1] at q1 q3 q4
        have hxl : xs.length + (R.getD i []).length ≤ 8796093022208 := by
          have h1 := HX.out
          have h2 := sum_le (R := R) (i + 1)
          rw [sum_take hlt, ← flat_len, ← h1] at h2
          have := HL.out
          omega
        have HX2 : Hid (xs ++ R.getD i [] = (R.take (i + 1)).flatten) := by
          unfold Hid
          rw [flat_take hlt, ← HX.out]
        clear q1 q2 e1 HX
        generalize R.getD i [] = ys at *
        have HQ : Hid (RdS B wr (.slice a ys.length c3) ys) := q4
        clear q4
        go_wp2_with (at_builtin; refine append_strs rfl _ _ rfl rfl rfl hO2 HQ.out (by omega) (by have := k2.size; omega) ?_)
        intro v' w' hO3 hgr
        have k3 : Below w.heap.size w w' := k2.grown hgr k2.size (fun k hk => (hO2.lt k hk).1)
        go_wp2
        go_roundw
        case rel => exact ⟨i + 1, xs ++ ys, by go_num, by omega, HX2, hO3, k3⟩
        case measure => simp [intOf]; omega
      obtain rfl : i = R.length := by omega
      have HX2 : Hid (xs = R.flatten) := by
        have := HX.out
        rw [List.take_length] at this
        exact this
      clear HX
      go_wp2
      go_ret
      exact ⟨_, rfl, by rw [← HX2.out]; exact hO2, k2⟩
end Go.Proofs.YtadkbcehhdcfaaaDoor

/- What became of a line, as lines: report.Outcome, and the document's. -/
namespace Go.Proofs.YtadkbcehhdcfaaaDoor
set_option linter.unusedVariables false
set_option linter.unusedSimpArgs false
open Go.RowKit

theorem rdSS_two {w : World} {u v : Value} {s t : List ByteArray} (h1 : RdS w.heap.size w u s) (h2 : RdS w.heap.size w v t) : RdSS w.heap.size (w.alloc (.cells #[u, v] 31)) w.heap.size 0 [u, v] [s, t] := by
  refine ⟨rfl, fun j hj => ?_⟩
  have X := boxA_new w #[u, v] 31
  match j, hj with
  | 0, _ => exact ⟨X.cell 0 rfl, h1.below (below_alloc w _) (Nat.le_refl _)⟩
  | 1, _ => exact ⟨X.cell 1 rfl, h2.below (below_alloc w _) (Nat.le_refl _)⟩
theorem concat_two {w : World} {u v : Value} {s t : List ByteArray} (h1 : RdS w.heap.size w u s) (h2 : RdS w.heap.size w v t) (hl : (s.length + t.length) * 16 ≤ 140737488355328) :
    Calls Tryd.prog 28 #[.slice (some ⟨w.heap.size, 0, none⟩) 2 2] (w.alloc (.cells #[u, v] 31)) fun r w' => ∃ x, r = .returned x ∧ OwS w.heap.size w' x (s ++ t) ∧ Below w.heap.size w w' := by
  have hc := concat_strsL (c := 2) (rdSS_two h1 h2) (by rw [World.size_alloc]; omega) (by rw [World.size_alloc]; omega) (by simp) (by simp; omega) (by simp) (by omega)
  refine hc.mono ?_
  rintro r w' ⟨x, rfl, o, k⟩
  rw [World.size_alloc] at o k
  refine ⟨x, rfl, ?_, (below_alloc w _).trans (k.mono (by omega))⟩
  have := o.up (B := w.heap.size) (by omega)
  simpa using this
set_option maxRecDepth 100000 in
set_option maxHeartbeats 6400000 in
theorem repOutcome_any (a : Option Addr) (c : Nat) (ss : List ByteArray) (e : Int) (name text : ByteArray) (line at' used : Int) (w : World) (hR : RdS w.heap.size w (.slice a ss.length c) ss) (hsl : ss.length * 16 ≤ 140737488351232) (hn : name.size ≤ 140737488351232) (ht : text.size ≤ 140737488351232) (h0 : -9223372036854775808 ≤ line) (h1 : line ≤ 9223372036854775807) (e0 : -9223372036854775808 ≤ e) (e1 : e ≤ 9223372036854775807) (hT : TabT w) (htab : Lib.TabIs Tryd.prog w "internal/strconv.uint64pow10" .u64 Lib.pow10Tab) :
    Calls Tryd.prog 19 #[.agg #[.slice a ss.length c, .int .i64 e, .string name, .int .i64 line, .string text, .int .i64 at', .int .i64 used]] w fun r w' => ∃ v, r = .returned v ∧ OwS w.heap.size w' v (ss ++ linesF e name line text at') ∧ Below w.heap.size w w' := by
  have X := boxA_new w #[.slice a ss.length c, .int .i64 e, .string name, .int .i64 line, .string text, .int .i64 at', .int .i64 used] 40
  have g := below_alloc w (.cells #[.slice a ss.length c, .int .i64 e, .string name, .int .i64 line, .string text, .int .i64 at', .int .i64 used] 40)
  have T := hT.below g hT.lt
  have H := Lib.tabIs_alloc htab (.cells #[.slice a ss.length c, .int .i64 e, .string name, .int .i64 line, .string text, .int .i64 at', .int .i64 used] 40)
  have HS : Hid (RdS (w.alloc (.cells #[.slice a ss.length c, .int .i64 e, .string name, .int .i64 line, .string text, .int .i64 at', .int .i64 used] 40)).heap.size (w.alloc (.cells #[.slice a ss.length c, .int .i64 e, .string name, .int .i64 line, .string text, .int .i64 at', .int .i64 used] 40)) (.slice a ss.length c) ss) := (hR.below g (Nat.le_refl _)).mono g.size
  have kLines := fun W hW h => repLines_any e name text line at' W hn ht h0 h1 e0 e1 hW h
  have hll : (linesF e name line text at').length ≤ 3 := by unfold linesF; split <;> simp
  generalize linesF e name line text at' = LS at *
  clear hT htab hR
  go_enter Tryd.func19, Tryd.ntmps19
  go_wp2
  generalize hA : w.alloc (.cells #[.slice a ss.length c, .int .i64 e, .string name, .int .i64 line, .string text, .int .i64 at', .int .i64 used] 40) = v at *
  clear hA
  have d0 := X.cell 0 rfl
  have d1 := X.cell 1 rfl
  have d2 := X.cell 2 rfl
  have d3 := X.cell 3 rfl
  have d4 := X.cell 4 rfl
  have d5 := X.cell 5 rfl
  have hcells : ∀ {w' : World}, Below v.heap.size v w' → w'.cell? ⟨w.heap.size, 0, none⟩ = some (.slice a ss.length c) ∧ w'.cell? ⟨w.heap.size, 1, none⟩ = some (.int .i64 e) ∧ w'.cell? ⟨w.heap.size, 2, none⟩ = some (.string name) ∧ w'.cell? ⟨w.heap.size, 3, none⟩ = some (.int .i64 line) ∧ w'.cell? ⟨w.heap.size, 4, none⟩ = some (.string text) ∧ w'.cell? ⟨w.heap.size, 5, none⟩ = some (.int .i64 at') := fun hb => ⟨(X.below hb X.lt).cell 0 rfl, (X.below hb X.lt).cell 1 rfl, (X.below hb X.lt).cell 2 rfl, (X.below hb X.lt).cell 3 rfl, (X.below hb X.lt).cell 4 rfl, (X.below hb X.lt).cell 5 rfl⟩
  go_region_held3 (fun w' => w'.cell? ⟨w.heap.size, 0, none⟩ = some (.slice a ss.length c) ∧ w'.cell? ⟨w.heap.size, 1, none⟩ = some (.int .i64 e) ∧ w'.cell? ⟨w.heap.size, 2, none⟩ = some (.string name) ∧ w'.cell? ⟨w.heap.size, 3, none⟩ = some (.int .i64 line) ∧ w'.cell? ⟨w.heap.size, 4, none⟩ = some (.string text) ∧ w'.cell? ⟨w.heap.size, 5, none⟩ = some (.int .i64 at'))
    (first | (go_keep; done) | exact t2 | exact hcells ba | exact t1)
    (first
      | (have j := t1; go_at_call 28; refine (concat_two (HS.out.over b1) R1 (by omega)).mono ?_; rintro r w2 ⟨v2, rfl, o2, k2⟩; have b2 : Below v.heap.size v w2 := b1.trans (k2.mono b1.size); have t2 := hcells b2)
      | (go_at_call 14; refine (kLines v.drew (T.below ⟨rfl, rfl, rfl, Nat.le_refl _, fun _ _ => rfl⟩ T.lt) H).mono ?_; rintro r w1 ⟨v1, rfl, o1, k1⟩; obtain ⟨x1, y1, rfl⟩ := row_form2S o1; have R1 := RdS.of_row o1; have b1 : Below v.heap.size v w1 := below_undrew k1; have t1 := hcells b1; have ba : Below v.heap.size v (w1.alloc (.cells #[.slice a ss.length c, .slice x1 LS.length y1] 31)) := b1.alloc b1.size _; clear o1))
  have hup := b1.size
  have hug := g.size
  go_wp2
  go_ret
  exact ⟨v2, rfl, o2.up (by omega), g.trans (b2.mono g.size)⟩
set_option maxRecDepth 100000 in
set_option maxHeartbeats 6400000 in
theorem refOutcome_any (a : Option Addr) (c : Nat) (ss : List ByteArray) (e : Int) (name text : ByteArray) (line at' used : Int) (w : World) (hR : RdS w.heap.size w (.slice a ss.length c) ss) (hsl : ss.length * 16 ≤ 140737488351232) (hn : name.size ≤ 140737488351232) (ht : text.size ≤ 140737488351232) (h0 : -9223372036854775808 ≤ line) (h1 : line ≤ 9223372036854775807) (e0 : -9223372036854775808 ≤ e) (e1 : e ≤ 9223372036854775807) :
    Calls Tryd.prog 20 #[.agg #[.slice a ss.length c, .int .i64 e, .string name, .int .i64 line, .string text, .int .i64 at', .int .i64 used]] w fun r w' => ∃ v, r = .returned v ∧ OwS w.heap.size w' v (ss ++ linesF e name line text at') ∧ Below w.heap.size w w' := by
  have X := boxA_new w #[.slice a ss.length c, .int .i64 e, .string name, .int .i64 line, .string text, .int .i64 at', .int .i64 used] 44
  have g := below_alloc w (.cells #[.slice a ss.length c, .int .i64 e, .string name, .int .i64 line, .string text, .int .i64 at', .int .i64 used] 44)
  have HS : Hid (RdS (w.alloc (.cells #[.slice a ss.length c, .int .i64 e, .string name, .int .i64 line, .string text, .int .i64 at', .int .i64 used] 44)).heap.size (w.alloc (.cells #[.slice a ss.length c, .int .i64 e, .string name, .int .i64 line, .string text, .int .i64 at', .int .i64 used] 44)) (.slice a ss.length c) ss) := (hR.below g (Nat.le_refl _)).mono g.size
  have kLines := fun W => refLines_any e name text line at' W hn ht h0 h1 e0 e1
  have hll : (linesF e name line text at').length ≤ 3 := by unfold linesF; split <;> simp
  generalize linesF e name line text at' = LS at *
  clear hR
  have d0 := X.cell 0 rfl
  have d1 := X.cell 1 rfl
  have d2 := X.cell 2 rfl
  have d3 := X.cell 3 rfl
  have d4 := X.cell 4 rfl
  have d5 := X.cell 5 rfl
  go_enter Tryd.func20, Tryd.ntmps20
  go_wp2_with (at_builtin; refine append_strs rfl _ _ rfl rfl rfl (base := w.heap.size + 1) (xs := []) (owS_none _ _) HS.out (by simp; omega) (by simp) ?_)
  intro v1 w1 o1 hgr
  have b1 : Below (w.heap.size + 1) (w.alloc (.cells #[.slice a ss.length c, .int .i64 e, .string name, .int .i64 line, .string text, .int .i64 at', .int .i64 used] 44)) w1 := (Below.refl _ _).grown hgr (by simp) (fun k hk => by cases hk)
  have X1 := X.below b1 (by omega)
  have g1 : Below w.heap.size w w1 := g.trans (b1.mono (by omega))
  obtain ⟨x1, y1, rfl⟩ := row_form2S o1
  clear d0 d1 d2 d3 d4 d5 hgr HS X
  have d0 := X1.cell 0 rfl
  have d1 := X1.cell 1 rfl
  have d2 := X1.cell 2 rfl
  have d3 := X1.cell 3 rfl
  have d4 := X1.cell 4 rfl
  have d5 := X1.cell 5 rfl
  have HO : Hid (OwS (w.heap.size + 1) w1 (.slice x1 ss.length y1) ss) := o1
  clear o1
  go_wp2_with fail
  refine (kLines w1).mono ?_
  rintro r w2 ⟨v2, rfl, o2, b2⟩
  obtain ⟨x2, y2, rfl⟩ := row_form2S o2
  have HR2 : Hid (RdS w2.heap.size w2 (.slice x2 LS.length y2) LS) := RdS.of_row o2
  have HO2 : Hid (OwS (w.heap.size + 1) w2 (.slice x1 ss.length y1) ss) := owS_belowS HO.out b2 (Nat.le_refl _)
  have g2 := g1.trans (b2.mono g1.size)
  have hs2 := b2.size
  have hs1 := b1.size
  rw [World.size_alloc] at hs1
  clear o2 HO
  go_wp2_with (at_builtin; refine append_strs rfl _ _ rfl rfl rfl HO2.out HR2.out (by omega) (by omega) ?_)
  intro v3 w3 o3 hgr
  have b3 : Below w.heap.size w w3 := g2.grown hgr g2.size (fun k hk => by have := (HO2.out.lt k hk).1; omega)
  obtain ⟨x3, y3, rfl⟩ := row_form2S o3
  go_wp2
  go_ret
  exact ⟨_, rfl, o3.up (by omega), b3⟩
end Go.Proofs.YtadkbcehhdcfaaaDoor
