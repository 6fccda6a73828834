/- ref05.in: is a character among those of a text? -/
import Derived.Test.YtopndegbofokiaaGreatKS4
import Derived.Test.YtopndegbofokiaaGreatShelf
import Derived.ScopeJumps
import Derived.WalkMore
namespace Go.Proofs.YtopndegbofokiaaGreat
set_option linter.unusedVariables false
set_option linter.unusedSimpArgs false
open Go.RowKit

/-- The characters of a text from a place on. -/
def rsF (s : ByteArray) : Nat → Nat → List Int
  | 0, _ => []
  | f + 1, pos => if pos < s.size then ((Utf8.decode s pos).1 : Int) :: rsF s f (pos + (Utf8.decode s pos).2) else []
set_option maxRecDepth 100000 in
set_option maxHeartbeats 16000000 in
theorem in_any (s : ByteArray) (g : Int) (w : World) : Calls Tryz.prog 62 #[.int .i32 g, .string s] w fun e w' => e = .returned (.bool ((rsF s s.size 0).contains g)) ∧ Below w.heap.size w w' := by
  go_enter Tryz.func62, Tryz.ntmps62
  go_wp2
  go_loopw [] (fun wr => ∃ (pos fuel : Nat), wr.heap[w.heap.size]? = some (.stringIter s pos) ∧ Hid ((rsF s fuel pos).contains g = (rsF s s.size 0).contains g) ∧ s.size ≤ pos + fuel ∧ Below w.heap.size w wr) (fun wr => s.size - wr.iterPos w.heap.size)
  case atStart =>
    exact ⟨0, s.size, World.iter_heap w s 0, rfl, by omega, below_alloc _ _⟩
  case round =>
    obtain ⟨pos, fuel, hit, HD, hf, hb⟩ := hrel
    by_cases hp : pos < s.size
    · have hnx : ∀ ty, (Instr.next (.pointer (some ⟨w.heap.size, 0, none⟩)) true ty).run Tryz.prog wr = _ := fun ty => Lib.run_next_any_at wr w.heap.size s pos ty hit hp
      have hwd := Lib.decode_width_pos s pos hp
      obtain ⟨f, rfl⟩ : ∃ f, fuel = f + 1 := ⟨fuel - 1, by omega⟩
      have HS : Hid ((rsF s (f + 1) pos) = ((Utf8.decode s pos).1 : Int) :: rsF s f (pos + (Utf8.decode s pos).2)) := by
        unfold Hid
        rw [rsF, if_pos hp]
      have hit2 := Lib.iterAt_heap wr w.heap.size s pos (pos + (Utf8.decode s pos).2) hit
      have hb2 := Lib.below_iterAt hb (k := w.heap.size) (by omega) s (pos + (Utf8.decode s pos).2)
      have HQ : Hid (wr.iterPos w.heap.size = pos) := by unfold Hid; simp only [World.iterPos, hit]
      generalize (Utf8.decode s pos).2 = n at *
      generalize (Utf8.decode s pos).1 = C at *
      generalize wr.iterAt w.heap.size s (pos + n) = W2 at *
      clear hit hb
      by_cases hc : (C : Int) = g
      · have hC : ((C : Int) == g) = true := by rw [beq_iff_eq]; exact hc
        have HE : Hid ((rsF s s.size 0).contains g = true) := by unfold Hid; rw [← HD.out, HS.out, List.contains_cons, hc]; simp
        clear hc HD HS
        go_wp2
        go_ret
        exact ⟨by rw [HE.out]; rfl, hb2⟩
      · have hC : ((C : Int) == g) = false := by rw [beq_eq_false_iff_ne]; exact hc
        have HE : Hid ((rsF s f (pos + n)).contains g = (rsF s s.size 0).contains g) := by
          unfold Hid
          rw [← HD.out, HS.out, List.contains_cons]
          have : (g == (C : Int)) = false := by rw [beq_eq_false_iff_ne]; exact fun h => hc h.symm
          rw [this]; rfl
        clear hc HD HS
        go_wp2
        go_roundw
        case rel => exact ⟨pos + n, f, hit2, HE, by omega, hb2⟩
        case measure =>
          rw [HQ.out]
          simp only [World.iterPos, hit2]
          omega
    · have hnx : ∀ ty, (Instr.next (.pointer (some ⟨w.heap.size, 0, none⟩)) true ty).run Tryz.prog wr = _ := fun ty => Lib.run_next_end_at wr w.heap.size s pos ty hit hp
      have HE : Hid ((rsF s s.size 0).contains g = false) := by
        unfold Hid
        rw [← HD.out]
        cases fuel with
        | zero => rfl
        | succ f => rw [rsF, if_neg hp]; rfl
      clear HD
      go_wp2
      go_ret
      exact ⟨by rw [HE.out]; rfl, hb⟩
set_option maxRecDepth 100000 in
set_option maxHeartbeats 16000000 in
theorem refIsMonadic_any (g : Int) (w : World) : Calls Tryz.prog 20 #[.int .i32 g] w fun e w' => e = .returned (.bool (([43, 45, 215, 247, 8968, 8970, 124, 42, 33, 126] : List Int).contains g)) ∧ Below w.heap.size w w' := by
  have HE : Hid (rsF (ByteArray.mk #[43, 45, 195, 151, 195, 183, 226, 140, 136, 226, 140, 138, 124, 42, 33, 126]) (ByteArray.mk #[43, 45, 195, 151, 195, 183, 226, 140, 136, 226, 140, 138, 124, 42, 33, 126]).size 0 = [43, 45, 215, 247, 8968, 8970, 124, 42, 33, 126]) := by unfold Hid; decide +kernel
  go_enter Tryz.func20, Tryz.ntmps20
  go_wp2_with fail
  refine (in_any _ _ _).mono ?_
  rintro e w1 ⟨rfl, b1⟩
  rw [HE.out]
  obtain ⟨B, hB⟩ : ∃ B, ([43, 45, 215, 247, 8968, 8970, 124, 42, 33, 126] : List Int).contains g = B := ⟨_, rfl⟩
  have HB : Hid (([43, 45, 215, 247, 8968, 8970, 124, 42, 33, 126] : List Int).contains g = B) := hB
  rw [hB]
  clear hB
  go_wp2
  go_ret
  exact ⟨by rw [HB.out]; rfl, b1⟩
set_option maxRecDepth 100000 in
set_option maxHeartbeats 16000000 in
theorem refIsDyadic_any (g : Int) (w : World) : Calls Tryz.prog 22 #[.int .i32 g] w fun e w' => e = .returned (.bool (([43, 45, 215, 247, 8968, 8970, 124, 42, 33, 60, 8804, 61, 8805, 62, 8800, 8743, 8744, 9074, 9073] : List Int).contains g)) ∧ Below w.heap.size w w' := by
  have HE : Hid (rsF (ByteArray.mk #[43, 45, 195, 151, 195, 183, 226, 140, 136, 226, 140, 138, 124, 42, 33, 60, 226, 137, 164, 61, 226, 137, 165, 62, 226, 137, 160, 226, 136, 167, 226, 136, 168, 226, 141, 178, 226, 141, 177]) (ByteArray.mk #[43, 45, 195, 151, 195, 183, 226, 140, 136, 226, 140, 138, 124, 42, 33, 60, 226, 137, 164, 61, 226, 137, 165, 62, 226, 137, 160, 226, 136, 167, 226, 136, 168, 226, 141, 178, 226, 141, 177]).size 0 = [43, 45, 215, 247, 8968, 8970, 124, 42, 33, 60, 8804, 61, 8805, 62, 8800, 8743, 8744, 9074, 9073]) := by unfold Hid; decide +kernel
  go_enter Tryz.func22, Tryz.ntmps22
  go_wp2_with fail
  refine (in_any _ _ _).mono ?_
  rintro e w1 ⟨rfl, b1⟩
  rw [HE.out]
  obtain ⟨B, hB⟩ : ∃ B, ([43, 45, 215, 247, 8968, 8970, 124, 42, 33, 60, 8804, 61, 8805, 62, 8800, 8743, 8744, 9074, 9073] : List Int).contains g = B := ⟨_, rfl⟩
  have HB : Hid (([43, 45, 215, 247, 8968, 8970, 124, 42, 33, 60, 8804, 61, 8805, 62, 8800, 8743, 8744, 9074, 9073] : List Int).contains g = B) := hB
  rw [hB]
  clear hB
  go_wp2
  go_ret
  exact ⟨by rw [HB.out]; rfl, b1⟩
end Go.Proofs.YtopndegbofokiaaGreat

/- scalar.ofOne: the functions of a number; which glyphs have one. -/
namespace Go.Proofs.YtopndegbofokiaaGreat
set_option linter.unusedVariables false
set_option linter.unusedSimpArgs false
open Go.RowKit

def tab1 : List (Int × Value) := [(43, .func (.func 82) #[] #[]), (45, .func (.func 83) #[] #[]), (215, .func (.func 84) #[] #[]), (247, .func (.func 86) #[] #[]), (8968, .func (.func 87) #[] #[]), (8970, .func (.func 88) #[] #[]), (124, .func (.func 89) #[] #[]), (42, .func (.func 90) #[] #[]), (33, .func (.func 91) #[] #[]), (126, .func (.func 92) #[] #[])]
set_option maxRecDepth 100000 in
set_option maxHeartbeats 16000000 in
theorem ofOne_any (w : World) : Calls Tryz.prog 35 #[] w fun e w' => e = .returned (.map (some w.heap.size)) ∧ MapIs w' w.heap.size tab1 ∧ Below w.heap.size w w' := by
  have hmm := @run_makeMap Tryz.prog
  have u0 := MapIs.new w
  have km := below_alloc w (.map #[] 0)
  have sv : (w.alloc (.map #[] 0)).heap.size = w.heap.size + 1 := by simp
  go_enter Tryz.func35, Tryz.ntmps35
  generalize hV : w.alloc (.map #[] 0) = v0 at *
  have p0 := Kp.refl w.heap.size v0
  obtain ⟨v1, r1, u1, q1, t1⟩ := MapIs.put (P := Tryz.prog) (mty := 61) (k := 43) (v := .func (.func 82) #[] #[]) Tryz.underlying61 Tryz.underlying21 u0 (by simp)
  have p1 := p0.trans q1
  obtain ⟨v2, r2, u2, q2, t2⟩ := MapIs.put (P := Tryz.prog) (mty := 61) (k := 45) (v := .func (.func 83) #[] #[]) Tryz.underlying61 Tryz.underlying21 u1 (by simp)
  have p2 := p1.trans q2
  obtain ⟨v3, r3, u3, q3, t3⟩ := MapIs.put (P := Tryz.prog) (mty := 61) (k := 215) (v := .func (.func 84) #[] #[]) Tryz.underlying61 Tryz.underlying21 u2 (by simp)
  have p3 := p2.trans q3
  obtain ⟨v4, r4, u4, q4, t4⟩ := MapIs.put (P := Tryz.prog) (mty := 61) (k := 247) (v := .func (.func 86) #[] #[]) Tryz.underlying61 Tryz.underlying21 u3 (by simp)
  have p4 := p3.trans q4
  obtain ⟨v5, r5, u5, q5, t5⟩ := MapIs.put (P := Tryz.prog) (mty := 61) (k := 8968) (v := .func (.func 87) #[] #[]) Tryz.underlying61 Tryz.underlying21 u4 (by simp)
  have p5 := p4.trans q5
  obtain ⟨v6, r6, u6, q6, t6⟩ := MapIs.put (P := Tryz.prog) (mty := 61) (k := 8970) (v := .func (.func 88) #[] #[]) Tryz.underlying61 Tryz.underlying21 u5 (by simp)
  have p6 := p5.trans q6
  obtain ⟨v7, r7, u7, q7, t7⟩ := MapIs.put (P := Tryz.prog) (mty := 61) (k := 124) (v := .func (.func 89) #[] #[]) Tryz.underlying61 Tryz.underlying21 u6 (by simp)
  have p7 := p6.trans q7
  obtain ⟨v8, r8, u8, q8, t8⟩ := MapIs.put (P := Tryz.prog) (mty := 61) (k := 42) (v := .func (.func 90) #[] #[]) Tryz.underlying61 Tryz.underlying21 u7 (by simp)
  have p8 := p7.trans q8
  obtain ⟨v9, r9, u9, q9, t9⟩ := MapIs.put (P := Tryz.prog) (mty := 61) (k := 33) (v := .func (.func 91) #[] #[]) Tryz.underlying61 Tryz.underlying21 u8 (by simp)
  have p9 := p8.trans q9
  obtain ⟨v10, r10, u10, q10, t10⟩ := MapIs.put (P := Tryz.prog) (mty := 61) (k := 126) (v := .func (.func 92) #[] #[]) Tryz.underlying61 Tryz.underlying21 u9 (by simp)
  have p10 := p9.trans q10
  simp only [List.nil_append, List.cons_append] at u10
  go_wp2_with fail
  go_ret
  exact ⟨rfl, u10, km.trans (p10.below (Nat.le_refl _) (by omega))⟩
theorem hidK {p : Prop} (h : p) : Hid p := h
theorem zero_monad (w : World) : (zeroValue 60).run Tryz.prog w = .ok .nilFunc w := by kernel_rfl
theorem ne_nilM (fn : Fn) (x y : Array Value) (w : World) : (binOp BinOp.neq 60 (.func fn x y) .nilFunc).run Tryz.prog w = .ok (.bool true) w := by kernel_rfl
theorem ne_nilM0 (w : World) : (binOp BinOp.neq 60 .nilFunc .nilFunc).run Tryz.prog w = .ok (.bool false) w := by kernel_rfl
theorem ne_nilD (fn : Fn) (x y : Array Value) (w : World) : (binOp BinOp.neq 69 (.func fn x y) .nilFunc).run Tryz.prog w = .ok (.bool true) w := by kernel_rfl
theorem ne_nilD0 (w : World) : (binOp BinOp.neq 69 .nilFunc .nilFunc).run Tryz.prog w = .ok (.bool false) w := by kernel_rfl
theorem atKey_cases (g : Int) : ∀ (l : List (Int × Value)), (∀ p ∈ l, ∃ fn x y, p.2 = .func fn x y) → ((l.map (·.1)).contains g = true ∧ ∃ fn x y, atKey .nilFunc g l = .func fn x y) ∨ ((l.map (·.1)).contains g = false ∧ atKey .nilFunc g l = .nilFunc)
  | [], _ => Or.inr ⟨rfl, rfl⟩
  | p :: l, h => by
    by_cases e : p.1 = g
    · refine Or.inl ⟨by simp [e], ?_⟩
      rw [atKey, if_pos e]
      exact h p (by simp)
    · have e' : (g == p.1) = false := by rw [beq_eq_false_iff_ne]; exact fun h => e h.symm
      rw [atKey, if_neg e, List.map_cons, List.contains_cons, e', Bool.false_or]
      exact atKey_cases g l fun q hq => h q (by simp [hq])
theorem tab1_cases (g : Int) : (([43, 45, 215, 247, 8968, 8970, 124, 42, 33, 126] : List Int).contains g = true ∧ ∃ fn x y, atKey .nilFunc g tab1 = .func fn x y) ∨ (([43, 45, 215, 247, 8968, 8970, 124, 42, 33, 126] : List Int).contains g = false ∧ atKey .nilFunc g tab1 = .nilFunc) :=
  atKey_cases g tab1 (by intro p hp; simp only [tab1, List.mem_cons, List.not_mem_nil, or_false] at hp; rcases hp with rfl | rfl | rfl | rfl | rfl | rfl | rfl | rfl | rfl | rfl <;> exact ⟨_, _, _, rfl⟩)
theorem tab2_cases (b : Nat) (g : Int) : (([43, 45, 215, 247, 8968, 8970, 124, 42, 33, 60, 8804, 61, 8805, 62, 8800, 8743, 8744, 9074, 9073] : List Int).contains g = true ∧ ∃ fn x y, atKey .nilFunc g (tab2 b) = .func fn x y) ∨ (([43, 45, 215, 247, 8968, 8970, 124, 42, 33, 60, 8804, 61, 8805, 62, 8800, 8743, 8744, 9074, 9073] : List Int).contains g = false ∧ atKey .nilFunc g (tab2 b) = .nilFunc) :=
  atKey_cases g (tab2 b) (by intro p hp; simp only [tab2, List.mem_cons, List.not_mem_nil, or_false] at hp; rcases hp with rfl | rfl | rfl | rfl | rfl | rfl | rfl | rfl | rfl | rfl | rfl | rfl | rfl | rfl | rfl | rfl | rfl | rfl | rfl <;> exact ⟨_, _, _, rfl⟩)
set_option maxRecDepth 100000 in
set_option maxHeartbeats 16000000 in
theorem isMonadic_any (g : Int) (w : World) : Calls Tryz.prog 19 #[.int .i32 g] w fun e w' => e = .returned (.bool (([43, 45, 215, 247, 8968, 8970, 124, 42, 33, 126] : List Int).contains g)) ∧ Below w.heap.size w w' := by
  have HC := hidK (tab1_cases g)
  go_enter Tryz.func19, Tryz.ntmps19
  go_wp2_with fail
  refine (ofOne_any w).mono ?_
  rintro e w1 ⟨rfl, hm, b1⟩
  have hg := MapIs.get (k := g) Tryz.underlying61 Tryz.underlying21 (zero_monad w1) hm
  clear hm
  have n1 := ne_nilM
  have n0 := ne_nilM0
  rcases HC.out with ⟨hc, fn, x, y, hk⟩ | ⟨hc, hk⟩
  all_goals
    rw [hk] at hg
    clear hk
    have HB := hidK hc
    clear hc HC
    go_wp2
    go_ret
    exact ⟨by rw [HB.out]; rfl, b1⟩
set_option maxRecDepth 100000 in
set_option maxHeartbeats 16000000 in
theorem isDyadic_any (g : Int) (w : World) : Calls Tryz.prog 21 #[.int .i32 g] w fun e w' => e = .returned (.bool (([43, 45, 215, 247, 8968, 8970, 124, 42, 33, 60, 8804, 61, 8805, 62, 8800, 8743, 8744, 9074, 9073] : List Int).contains g)) ∧ Below w.heap.size w w' := by
  have HC := hidK fun b => tab2_cases b g
  go_enter Tryz.func21, Tryz.ntmps21
  go_wp2_with fail
  refine (ofTwo_any false none none 0 0 0 0 w).mono ?_
  rintro e w1 ⟨rfl, hm, b1⟩
  have hg := MapIs.get (k := g) Tryz.underlying70 Tryz.underlying21 (zero_dyad w1) hm.tab
  clear hm
  have n1 := ne_nilD
  have n0 := ne_nilD0
  rcases HC.out w.heap.size with ⟨hc, fn, x, y, hk⟩ | ⟨hc, hk⟩
  all_goals
    rw [hk] at hg
    clear hk
    have HB := hidK hc
    clear hc HC
    go_wp2
    go_ret
    exact ⟨by rw [HB.out]; rfl, b1⟩
end Go.Proofs.YtopndegbofokiaaGreat

/- strings.IndexRune of a character that is no ASCII, in a text that is given. -/
namespace Go.Proofs.YtopndegbofokiaaGreat
set_option linter.unusedVariables false
set_option linter.unusedSimpArgs false
open Go.RowKit

/-- As Q; by a goto to label l: the code behind it. -/
def oneJump (P : Program) (l : Nat) (rest : Code) (Q : Exit → Act → World → Prop) : Exit → Act → World → Prop
  | .goto l', a, w => l' = l ∧ rest.wp P (Exit.noGoto Q) a w
  | e, a, w => Q e a w
theorem wp_scope_once {P : Program} {c rest : Code} {Q : Exit → Act → World → Prop} {a : Act} {w : World} (l : Nat) (hf : findLabel c l = some rest) (h : c.wp P (oneJump P l rest Q) a w) : (Code.scope c).wp P Q a w := by
  refine wp_scope_jumps l (fun a w => rest.wp P (Exit.noGoto Q) a w) (fun _ _ => 0) hf (Go.Code.wp_mono (fun e a w hq => ?_) h) (fun a w hJ => Go.Code.wp_mono (fun e a w hq => ?_) hJ)
  · cases e <;> exact hq
  · cases e <;> first | exact hq | exact hq.elim
section
variable {P : Program} {l : Nat} {rest : Code} {Q : Exit → Act → World → Prop} {a : Act} {w : World}
@[go_sem] theorem oneJump_normal : oneJump P l rest Q .normal a w = Q .normal a w := rfl
@[go_sem] theorem oneJump_exit (i : Nat) : oneJump P l rest Q (.exit i) a w = Q (.exit i) a w := rfl
@[go_sem] theorem oneJump_ret : oneJump P l rest Q .ret a w = Q .ret a w := rfl
@[go_sem] theorem oneJump_panic (ch : List PanicEntry) : oneJump P l rest Q (.panic ch) a w = Q (.panic ch) a w := rfl
end
theorem below_drewX {n : Nat} {w v : World} (h : Below n w v) : Below n w v.drew := ⟨h.os, h.tape, h.output, h.size, h.block⟩
end Go.Proofs.YtopndegbofokiaaGreat
