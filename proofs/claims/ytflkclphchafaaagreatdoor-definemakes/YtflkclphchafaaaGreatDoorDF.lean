/- law12.live. -/
import Derived.Test.YtflkclphchafaaaGreatDoorDE
namespace Go.Proofs.YtflkclphchafaaaGreatDoor
set_option linter.unusedVariables false
set_option linter.unusedSimpArgs false
open Go.RowKit Go.Shelf

def lh1 : ByteArray := ⟨#[82, 226, 134, 144, 65, 32, 70, 32, 66, 59, 88]⟩
def lm1 : ByteArray := ⟨#[70, 32, 88]⟩
def lm2 : ByteArray := ⟨#[76, 58, 226, 134, 146, 76]⟩
theorem head_live (ne : ByteArray → Int) : headerF ne lh1 = some ⟨⟨#[70]⟩, ⟨#[82]⟩, ⟨#[65]⟩, ⟨#[66]⟩, [⟨#[88]⟩]⟩ := by kernel_rfl
theorem make_live (ne : ByteArray → Int) : makeF ne [lm1, lm2] = .inr (⟨⟨#[70]⟩, ⟨#[]⟩, ⟨#[]⟩, ⟨#[88]⟩, []⟩, [⟨#[76]⟩], [1]) := by kernel_rfl
theorem live_sz : ∀ x ∈ [lm1, lm2], x.size ≤ 9223372036854775807 := by
 intro x hx
 rcases List.mem_cons.1 hx with rfl | hx
 · decide
 · rw [List.mem_singleton.1 hx]; decide
theorem rdS_new2 (w : World) (x y : ByteArray) : RdS (w.heap.size + 1) (w.alloc (.cells #[.string x, .string y] 9)) (.slice (some ⟨w.heap.size, 0, none⟩) 2 2) [x, y] := by
 refine ⟨some ⟨w.heap.size, 0, none⟩, 2, rfl, by simp, by omega, (fun e => by cases e), Or.inr ⟨w.heap.size, 0, rfl, by omega, fun j hj => ?_⟩⟩
 have hb := boxA_new w #[.string x, .string y] 9
 match j, hj with
 | 0, _ => exact hb.cell 0 rfl
 | 1, _ => exact hb.cell 1 rfl
set_option maxRecDepth 100000 in
set_option maxHeartbeats 16000000 in
theorem live12_ok (w : World) : Calls Tryz.prog 7 #[] w fun e w' => e = .returned (.bool true) ∧ Below w.heap.size w w' := by
 obtain ⟨ne, hne⟩ := tellsErr_ex
 have C1 := header_any hne lh1 (w := w) (by decide)
 rw [head_live ne] at C1
 have HC1 : Hid (Calls Tryz.prog 13 #[.string ⟨#[82, 226, 134, 144, 65, 32, 70, 32, 66, 59, 88]⟩] w _) := C1
 clear C1
 go_enter Tryz.func7, Tryz.ntmps7
 go_wp2_with fail
 refine HC1.out.mono ?_
 rintro e w1 ⟨hcase, k1⟩
 clear HC1
 rcases hcase with ⟨h, a1, c1, gl, hh, rfl, hO, hS⟩ | ⟨hh, _⟩
 case inr => cases hh
 cases hh
 clear hO hS
 simp only [List.length_cons, List.length_nil]
 go_upto_region 2 with fail
 have k2 := below_alloc w1 (.cells (fnV ⟨#[70]⟩ ⟨#[82]⟩ ⟨#[65]⟩ ⟨#[66]⟩ (.slice a1 1 c1) (.slice none 0 0) (.slice none 0 0) (.slice (some ⟨gl, 0, none⟩) 1 1) false) 25)
 have N2 := boxA_new w1 (fnV ⟨#[70]⟩ ⟨#[82]⟩ ⟨#[65]⟩ ⟨#[66]⟩ (.slice a1 1 c1) (.slice none 0 0) (.slice none 0 0) (.slice (some ⟨gl, 0, none⟩) 1 1) false) 25
 have s2 : w1.heap.size < (w1.alloc (.cells (fnV ⟨#[70]⟩ ⟨#[82]⟩ ⟨#[65]⟩ ⟨#[66]⟩ (.slice a1 1 c1) (.slice none 0 0) (.slice none 0 0) (.slice (some ⟨gl, 0, none⟩) 1 1) false) 25)).heap.size := by simp
 generalize hW2 : w1.alloc (.cells (fnV ⟨#[70]⟩ ⟨#[82]⟩ ⟨#[65]⟩ ⟨#[66]⟩ (.slice a1 1 c1) (.slice none 0 0) (.slice none 0 0) (.slice (some ⟨gl, 0, none⟩) 1 1) false) 25) = w2 at *
 clear hW2
 have s1 := k1.size
 have g2 : Below w.heap.size w w2 := k1.trans (k2.mono s1)
 have k3 := below_alloc w2 (.cells #[.string lm1, .string lm2] 9)
 have C3 := fnMake_any (B := w2.heap.size + 1) (ss := [lm1, lm2]) (a := some ⟨w2.heap.size, 0, none⟩) (c := 2) (w := w2.alloc (.cells #[.string lm1, .string lm2] 9)) hne (rdS_new2 w2 lm1 lm2) (by simp) live_sz
 rw [make_live ne] at C3
 have N3 := N2.below k3 s2
 have s3 : w2.heap.size < (w2.alloc (.cells #[.string lm1, .string lm2] 9)).heap.size := by simp
 have g3 : Below w.heap.size w (w2.alloc (.cells #[.string lm1, .string lm2] 9)) := g2.trans (k3.mono g2.size)
 have HC3 : Hid (Calls Tryz.prog 5 #[.slice (some ⟨w2.heap.size, 0, none⟩) 2 2] (w2.alloc (.cells #[.string lm1, .string lm2] 9)) _) := C3
 clear C3 N2 k2 k3 k1
 have hW : w2.alloc (.cells #[.string ⟨#[70, 32, 88]⟩, .string ⟨#[76, 58, 226, 134, 146, 76]⟩] 9) = w2.alloc (.cells #[.string lm1, .string lm2] 9) := rfl
 generalize w2.alloc (.cells #[.string lm1, .string lm2] 9) = w3 at *
 go_wp2_with fail
 refine HC3.out.mono ?_
 rintro e w4 ⟨hcase, k4⟩
 clear HC3 hW
 have s4 := k4.size
 have N4 := N3.below k4 (by omega)
 have g4 : Below w.heap.size w w4 := g3.trans (k4.mono g3.size)
 rcases hcase with ⟨n, hh, _⟩ | ⟨h, ls, ats, b1, d1, b2, d2, b3, d3, b4, d4, hh, rfl, oC, oL, oA, oS⟩
 case inl => cases hh
 cases hh
 obtain ⟨gA, rfl, hA1, hA2, hA3⟩ := row_ptrS oA (by simp)
 have qa : w4.cell? ⟨gA, 0, none⟩ = some (.int .i64 1) := World.ownsRow.cellAt oA 0 (by simp)
 clear oC oL oA oS
 simp only [List.length_cons, List.length_nil]
 go_upto_region 3 with fail
 have k5 := below_alloc w4 (.cells (fnV ⟨#[70]⟩ ⟨#[]⟩ ⟨#[]⟩ ⟨#[88]⟩ (.slice b1 0 d1) (.slice b2 1 d2) (.slice (some ⟨gA, 0, none⟩) 1 d3) (.slice b4 2 d4) false) 25)
 have M5 := boxA_new w4 (fnV ⟨#[70]⟩ ⟨#[]⟩ ⟨#[]⟩ ⟨#[88]⟩ (.slice b1 0 d1) (.slice b2 1 d2) (.slice (some ⟨gA, 0, none⟩) 1 d3) (.slice b4 2 d4) false) 25
 have N5 := N4.below k5 (by omega)
 have g5 : Below w.heap.size w (w4.alloc (.cells (fnV ⟨#[70]⟩ ⟨#[]⟩ ⟨#[]⟩ ⟨#[88]⟩ (.slice b1 0 d1) (.slice b2 1 d2) (.slice (some ⟨gA, 0, none⟩) 1 d3) (.slice b4 2 d4) false) 25)) := g4.trans (k5.mono g4.size)
 have qa5 := (k5.cell (p := ⟨gA, 0, none⟩) hA3).trans qa
 generalize hW5 : w4.alloc (.cells (fnV ⟨#[70]⟩ ⟨#[]⟩ ⟨#[]⟩ ⟨#[88]⟩ (.slice b1 0 d1) (.slice b2 1 d2) (.slice (some ⟨gA, 0, none⟩) 1 d3) (.slice b4 2 d4) false) 25) = w5 at *
 clear hW5 k5 N4 qa
 have n0 := N5.cell 0 rfl
 have n1 := N5.cell 1 rfl
 have n2 := N5.cell 2 rfl
 have n3 := N5.cell 3 rfl
 have n4 := N5.cell 4 rfl
 have m5 := M5.cell 5 rfl
 have m6 := M5.cell 6 rfl
 have hd3 : 1 ≤ d3 := by simpa using hA1
 go_wp2
 go_ret
 exact ⟨rfl, g5⟩
end Go.Proofs.YtflkclphchafaaaGreatDoor
