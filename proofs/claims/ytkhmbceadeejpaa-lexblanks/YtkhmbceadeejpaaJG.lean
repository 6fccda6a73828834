/- The document's Same and SameItem of arrays that are the same. -/
import Derived.Test.YtkhmbceadeejpaaJE
import Derived.Test.YtkhmbceadeejpaaJ4
import Derived.Test.YtkhmbceadeejpaaJD
namespace Go.Proofs.Ytkhmbceadeejpaa
set_option linter.unusedVariables false
set_option linter.unusedSimpArgs false
open Go.RowKit

/-- Same answers true of two arrays that are the same, so many levels deep. -/
def SameOK (f : Nat) : Prop := ∀ (D : Nat → Prop) (W : World) (x1 : Option Addr) (n1 y1 : Nat) (x2 : Option Addr) (n2 y2 : Nat) (z1 : Option Addr) (m1 u1 : Nat) (z2 : Option Addr) (m2 u2 : Nat) (t : Tr), (∀ g, D g → g < W.heap.size) → ArV f D W (.slice x1 n1 y1) (.slice x2 n2 y2) t → ArV f D W (.slice z1 m1 u1) (.slice z2 m2 u2) t →
  Calls Try.prog 8 #[.agg #[.slice x1 n1 y1, .slice x2 n2 y2], .agg #[.slice z1 m1 u1, .slice z2 m2 u2]] W fun e w' => e = .returned (.bool true) ∧ Below W.heap.size W w'
section
variable {D : Nat → Prop} {f : Nat} {W : World} {a1 a2 a3 b1 b2 b3 : Option Addr} {c1 c2 c3 d1 d2 d3 : Nat} {t : Tr}
set_option maxRecDepth 100000 in
set_option maxHeartbeats 6400000 in
theorem sameItem_eq (hS : SameOK f) (hB : ∀ g, D g → g < W.heap.size) (h1 : ItV (ArV f D W) D W a1 c1 a2 c2 a3 c3 t) (h2 : ItV (ArV f D W) D W b1 d1 b2 d2 b3 d3 t) :
    Calls Try.prog 12 #[.agg #[.int .u8 t.k, .bool t.b, .slice a1 t.ns.length c1, .slice a2 t.ds.length c2, .int .i32 t.c, .slice a3 t.kids.length c3], .agg #[.int .u8 t.k, .bool t.b, .slice b1 t.ns.length d1, .slice b2 t.ds.length d2, .int .i32 t.c, .slice b3 t.kids.length d3]] W fun e w' => e = .returned (.bool true) ∧ Below W.heap.size W w' := by
  have HS : Hid (SameOK f) := hS
  have H1 : Hid (ItV (ArV f D W) D W a1 c1 a2 c2 a3 c3 t) := h1
  have H2 : Hid (ItV (ArV f D W) D W b1 d1 b2 d2 b3 d3 t) := h2
  clear hS h1 h2
  have k1 := below_alloc W (.cells #[.int .u8 t.k, .bool t.b, .slice a1 t.ns.length c1, .slice a2 t.ds.length c2, .int .i32 t.c, .slice a3 t.kids.length c3] 52)
  have k2 := below_alloc (W.alloc (.cells #[.int .u8 t.k, .bool t.b, .slice a1 t.ns.length c1, .slice a2 t.ds.length c2, .int .i32 t.c, .slice a3 t.kids.length c3] 52)) (.cells #[.int .u8 t.k, .bool t.b, .slice b1 t.ns.length d1, .slice b2 t.ds.length d2, .int .i32 t.c, .slice b3 t.kids.length d3] 52)
  have X := (boxA_new W #[.int .u8 t.k, .bool t.b, .slice a1 t.ns.length c1, .slice a2 t.ds.length c2, .int .i32 t.c, .slice a3 t.kids.length c3] 52).below k2 (by simp)
  have Y := boxA_new (W.alloc (.cells #[.int .u8 t.k, .bool t.b, .slice a1 t.ns.length c1, .slice a2 t.ds.length c2, .int .i32 t.c, .slice a3 t.kids.length c3] 52)) #[.int .u8 t.k, .bool t.b, .slice b1 t.ns.length d1, .slice b2 t.ds.length d2, .int .i32 t.c, .slice b3 t.kids.length d3] 52
  rw [World.size_alloc] at Y
  have sW : ((W.alloc (.cells #[.int .u8 t.k, .bool t.b, .slice a1 t.ns.length c1, .slice a2 t.ds.length c2, .int .i32 t.c, .slice a3 t.kids.length c3] 52)).alloc (.cells #[.int .u8 t.k, .bool t.b, .slice b1 t.ns.length d1, .slice b2 t.ds.length d2, .int .i32 t.c, .slice b3 t.kids.length d3] 52)).heap.size = W.heap.size + 2 := by simp
  have kW : Below W.heap.size W _ := k1.trans (k2.mono (by simp))
  clear k1 k2
  have e0 : (t.k != t.k) = false := by simp
  have e1 : (t.c != t.c) = false := by simp
  have e2 : ((t.kids.length : Int) != (t.kids.length : Int)) = false := by simp
  have x0 := X.cell 0 rfl
  have x1 := X.cell 1 rfl
  have x2 := X.cell 2 rfl
  have x3 := X.cell 3 rfl
  have x4 := X.cell 4 rfl
  have x5 := X.cell 5 rfl
  have y0 := Y.cell 0 rfl
  have y1 := Y.cell 1 rfl
  have y2 := Y.cell 2 rfl
  have y3 := Y.cell 3 rfl
  have y4 := Y.cell 4 rfl
  have y5 := Y.cell 5 rfl
  go_enter Try.func12, Try.ntmps12
  go_wp2_with fail
  clear x0 x1 x2 x3 x4 x5 y0 y1 y2 y3 y4 y5
  generalize hA : (W.alloc (.cells #[.int .u8 t.k, .bool t.b, .slice a1 t.ns.length c1, .slice a2 t.ds.length c2, .int .i32 t.c, .slice a3 t.kids.length c3] 52)).alloc (.cells #[.int .u8 t.k, .bool t.b, .slice b1 t.ns.length d1, .slice b2 t.ds.length d2, .int .i32 t.c, .slice b3 t.kids.length d3] 52) = v at *
  clear hA
  have kA : Agree D W v := Agree.of kW hB
  have hD : ∀ g, D g → g < v.heap.size := fun g h => by have := hB g h; omega
  have HB : Hid (∀ g, D g → g < W.heap.size) := hB
  refine (same_rat ((H1.out.rn.imp (fun _ h => h) kA).rd hD) ((H1.out.rd.imp (fun _ h => h) kA).rd hD) ((H2.out.rn.imp (fun _ h => h) kA).rd hD) ((H2.out.rd.imp (fun _ h => h) kA).rd hD)).mono ?_
  clear hB hD kA
  rintro e w1 ⟨rfl, k1⟩
  have s1 := k1.size
  have X1 := X.below k1 (by omega)
  have Y1 := Y.below k1 (by omega)
  have x5 := X1.cell 5 rfl
  have y5 := Y1.cell 5 rfl
  go_wp2
  clear x5 y5
  have kW1 : Below W.heap.size W w1 := kW.trans (k1.mono (by omega))
  go_loopw [5] (fun iv wr => ∃ i : Nat, iv = .int .i64 i ∧ i ≤ t.kids.length ∧ Below w1.heap.size w1 wr) (fun iv _ => t.kids.length - (intOf iv).toNat)
  case atStart => exact ⟨0, rfl, Nat.zero_le _, Below.refl _ _⟩
  case round =>
    obtain ⟨i, rfl, hil, hb⟩ := hrel
    have hsz := hb.size
    have X2 := X1.below hb (by omega)
    have Y2 := Y1.below hb (by omega)
    have x5 := X2.cell 5 rfl
    have y5 := Y2.cell 5 rfl
    have hbW : Below W.heap.size W wr := kW1.trans (hb.mono (by omega))
    have bd1 := H1.out.bx.bounds
    have bd2 := H2.out.bx.bounds
    by_cases hlt : i < t.kids.length
    · obtain ⟨g1, o1, rfl, hg1, hc1⟩ := H1.out.bx.ptr (by omega)
      obtain ⟨g2, o2, rfl, hg2, hc2⟩ := H2.out.bx.ptr (by omega)
      obtain ⟨p1, m1, q1, p2, m2, q2, e1, e2, hp⟩ := hc1 i hlt
      obtain ⟨r1, l1, s1, r2, l2, s2, f1, f2, hr⟩ := hc2 i hlt
      have E1 := (hbW.cell (p := ⟨g1, o1 + i * 2, none⟩) (HB.out g1 hg1)).trans e1
      have E2 := (hbW.cell (p := ⟨g1, o1 + i * 2 + 1, none⟩) (HB.out g1 hg1)).trans e2
      have F1 := (hbW.cell (p := ⟨g2, o2 + i * 2, none⟩) (HB.out g2 hg2)).trans f1
      have F2 := (hbW.cell (p := ⟨g2, o2 + i * 2 + 1, none⟩) (HB.out g2 hg2)).trans f2
      have HP : Hid (ArV f D wr (.slice p1 m1 q1) (.slice p2 m2 q2) (t.kids.getD i tr0)) := hp.agree (Agree.of hbW HB.out)
      have HR : Hid (ArV f D wr (.slice r1 l1 s1) (.slice r2 l2 s2) (t.kids.getD i tr0)) := hr.agree (Agree.of hbW HB.out)
      have HBr : Hid (∀ g, D g → g < wr.heap.size) := fun g h => by have := HB.out g h; have := hbW.size; omega
      clear hc1 hc2 hp hr e1 e2 f1 f2
      go_wp2_with fail
      go_region_with (go_at_call 8; refine (HS.out D _ _ _ _ _ _ _ _ _ _ _ _ _ (t.kids.getD i tr0) (by first | exact HBr.out | (intro g hg; have := HBr.out g hg; exact this)) (by first | exact HP.out | exact HP.out.agree (fun _ _ => rfl)) (by first | exact HR.out | exact HR.out.agree (fun _ _ => rfl))).mono ?_; rintro e w2 ⟨rfl, k2⟩)
      all_goals
        have k2' : Below wr.heap.size wr w2 := by first | exact k2 | exact below_undrew k2
        go_wp2
        go_roundw
        case rel => exact ⟨i + 1, by go_num, by omega, hb.trans (k2'.mono (by omega))⟩
        case measure => simp [intOf]; omega
    · go_wp2
      go_ret
      exact ⟨rfl, hbW⟩
end
set_option maxRecDepth 100000 in
set_option maxHeartbeats 6400000 in
theorem same_step {f : Nat} (hS : SameOK f) : SameOK (f + 1) := by
  intro D W x1 n1 y1 x2 n2 y2 z1 m1 u1 z2 m2 u2 t hB h1 h2
  obtain rfl := h1.1.len
  obtain rfl := h2.1.len
  obtain rfl := h1.2.len
  obtain rfl := h2.2.len
  have HS : Hid (SameOK f) := hS
  have H1 : Hid (ArV (f + 1) D W (.slice x1 t.ns.length y1) (.slice x2 t.kids.length y2) t) := h1
  have H2 : Hid (ArV (f + 1) D W (.slice z1 t.ns.length u1) (.slice z2 t.kids.length u2) t) := h2
  have bd1 := h1.1.bounds
  have bd2 := h2.1.bounds
  have bd3 := h1.2.bounds
  have bd4 := h2.2.bounds
  have HB : Hid (∀ g, D g → g < W.heap.size) := hB
  clear hS h1 h2 hB
  have k1 := below_alloc W (.cells #[.slice x1 t.ns.length y1, .slice x2 t.kids.length y2] 31)
  have k2 := below_alloc (W.alloc (.cells #[.slice x1 t.ns.length y1, .slice x2 t.kids.length y2] 31)) (.cells #[.slice z1 t.ns.length u1, .slice z2 t.kids.length u2] 31)
  have X := (boxA_new W #[.slice x1 t.ns.length y1, .slice x2 t.kids.length y2] 31).below k2 (by simp)
  have Y := boxA_new (W.alloc (.cells #[.slice x1 t.ns.length y1, .slice x2 t.kids.length y2] 31)) #[.slice z1 t.ns.length u1, .slice z2 t.kids.length u2] 31
  rw [World.size_alloc] at Y
  have sW : ((W.alloc (.cells #[.slice x1 t.ns.length y1, .slice x2 t.kids.length y2] 31)).alloc (.cells #[.slice z1 t.ns.length u1, .slice z2 t.kids.length u2] 31)).heap.size = W.heap.size + 2 := by simp
  have kW : Below W.heap.size W _ := k1.trans (k2.mono (by simp))
  clear k1 k2
  have e0 : ((t.ns.length : Int) != (t.ns.length : Int)) = false := by simp
  have e2 : ((t.kids.length : Int) != (t.kids.length : Int)) = false := by simp
  have p0 := X.cell 0 rfl
  have p1 := X.cell 1 rfl
  have q0 := Y.cell 0 rfl
  have q1 := Y.cell 1 rfl
  go_enter Try.func8, Try.ntmps8
  go_wp2
  clear p0 p1 q0 q1
  generalize hA : (W.alloc (.cells #[.slice x1 t.ns.length y1, .slice x2 t.kids.length y2] 31)).alloc (.cells #[.slice z1 t.ns.length u1, .slice z2 t.kids.length u2] 31) = v at *
  clear hA
  go_loopw [5] (fun iv wr => ∃ i : Nat, iv = .int .i64 i ∧ i ≤ t.ns.length ∧ Below v.heap.size v wr) (fun iv _ => t.ns.length - (intOf iv).toNat)
  case atStart => exact ⟨0, rfl, Nat.zero_le _, Below.refl _ _⟩
  case round =>
    obtain ⟨i, rfl, hil, hb⟩ := hrel
    have hsz := hb.size
    have X2 := X.below hb (by omega)
    have Y2 := Y.below hb (by omega)
    have hbW : Below W.heap.size W wr := kW.trans (hb.mono (by omega))
    have p0 := X2.cell 0 rfl
    have q0 := Y2.cell 0 rfl
    by_cases hlt : i < t.ns.length
    · obtain ⟨g1, o1, rfl, hg1, hc1⟩ := H1.out.1.ptr (by omega)
      obtain ⟨g2, o2, rfl, hg2, hc2⟩ := H2.out.1.ptr (by omega)
      have E1 := (hbW.cell (p := ⟨g1, o1 + i, none⟩) (HB.out g1 hg1)).trans (hc1 i hlt)
      have E2 := (hbW.cell (p := ⟨g2, o2 + i, none⟩) (HB.out g2 hg2)).trans (hc2 i hlt)
      clear hc1 hc2
      generalize t.ns.getD i 0 = Z at *
      have hd : (Z != Z) = false := by simp
      go_wp2
      go_region
      all_goals
        go_wp2
        go_roundw
        case rel => exact ⟨i + 1, by go_num, by omega, (by first | exact hb | exact hb.trans ⟨rfl, rfl, rfl, Nat.le_refl _, fun _ _ => rfl⟩)⟩
        case measure => simp [intOf]; omega
    · have p1 := X2.cell 1 rfl
      go_wp2
      clear p0 q0 p1
      go_loopw [6] (fun iv wr2 => ∃ i : Nat, iv = .int .i64 i ∧ i ≤ t.kids.length ∧ Below wr.heap.size wr wr2) (fun iv _ => t.kids.length - (intOf iv).toNat)
      case atStart => exact ⟨0, rfl, Nat.zero_le _, Below.refl _ _⟩
      case round =>
        obtain ⟨i, rfl, hil2, hb2⟩ := hrel
        have hsz2 := hb2.size
        have hbW2 := hbW.trans (hb2.mono (by have := hbW.size; omega))
        have X3 := X2.below hb2 (by omega)
        have Y3 := Y2.below hb2 (by omega)
        have p1 := X3.cell 1 rfl
        have q1 := Y3.cell 1 rfl
        by_cases hlt2 : i < t.kids.length
        · obtain ⟨g1, o1, rfl, hg1, hc1⟩ := H1.out.2.ptr (by omega)
          obtain ⟨g2, o2, rfl, hg2, hc2⟩ := H2.out.2.ptr (by omega)
          obtain ⟨a1, c1, a2, c2, a3, c3, ⟨e0, e1, e2, e3, e4, e5⟩, hp⟩ := hc1 i hlt2
          obtain ⟨b1, d1, b2, d2, b3, d3, ⟨f0, f1, f2, f3, f4, f5⟩, hr⟩ := hc2 i hlt2
          have E0 := (hbW2.cell (p := ⟨g1, o1 + i * 6, none⟩) (HB.out g1 hg1)).trans e0
          have E1 := (hbW2.cell (p := ⟨g1, o1 + i * 6 + 1, none⟩) (HB.out g1 hg1)).trans e1
          have E2 := (hbW2.cell (p := ⟨g1, o1 + i * 6 + 2, none⟩) (HB.out g1 hg1)).trans e2
          have E3 := (hbW2.cell (p := ⟨g1, o1 + i * 6 + 3, none⟩) (HB.out g1 hg1)).trans e3
          have E4 := (hbW2.cell (p := ⟨g1, o1 + i * 6 + 4, none⟩) (HB.out g1 hg1)).trans e4
          have E5 := (hbW2.cell (p := ⟨g1, o1 + i * 6 + 5, none⟩) (HB.out g1 hg1)).trans e5
          have F0 := (hbW2.cell (p := ⟨g2, o2 + i * 6, none⟩) (HB.out g2 hg2)).trans f0
          have F1 := (hbW2.cell (p := ⟨g2, o2 + i * 6 + 1, none⟩) (HB.out g2 hg2)).trans f1
          have F2 := (hbW2.cell (p := ⟨g2, o2 + i * 6 + 2, none⟩) (HB.out g2 hg2)).trans f2
          have F3 := (hbW2.cell (p := ⟨g2, o2 + i * 6 + 3, none⟩) (HB.out g2 hg2)).trans f3
          have F4 := (hbW2.cell (p := ⟨g2, o2 + i * 6 + 4, none⟩) (HB.out g2 hg2)).trans f4
          have F5 := (hbW2.cell (p := ⟨g2, o2 + i * 6 + 5, none⟩) (HB.out g2 hg2)).trans f5
          have HP : Hid (ItV (ArV f D wr) D wr a1 c1 a2 c2 a3 c3 (t.kids.getD i tr0)) := hp.agree (Agree.of hbW2 HB.out)
          have HR : Hid (ItV (ArV f D wr) D wr b1 d1 b2 d2 b3 d3 (t.kids.getD i tr0)) := hr.agree (Agree.of hbW2 HB.out)
          have HBr : Hid (∀ g, D g → g < wr.heap.size) := fun g h => by have := HB.out g h; have := hbW2.size; omega
          clear hc1 hc2 hp hr e0 e1 e2 e3 e4 e5 f0 f1 f2 f3 f4 f5
          generalize t.kids.getD i tr0 = T at *
          go_wp2
          go_region_with (go_at_call 12; refine (sameItem_eq HS.out (by first | exact HBr.out | (intro g hg; have := HBr.out g hg; exact this)) (by first | exact HP.out | exact HP.out.agree (fun _ _ => rfl)) (by first | exact HR.out | exact HR.out.agree (fun _ _ => rfl))).mono ?_; rintro e w2 ⟨rfl, k2⟩)
          all_goals
            have k2' : Below wr.heap.size wr w2 := by first | exact k2 | exact below_undrew k2
            go_wp2
            go_roundw
            case rel => exact ⟨i + 1, by go_num, by omega, hb2.trans (k2'.mono (by omega))⟩
            case measure => simp [intOf]; omega
        · go_wp2
          go_ret
          exact ⟨rfl, hbW2⟩
theorem same_all : ∀ f, SameOK f
  | 0 => by intro D W x1 n1 y1 x2 n2 y2 z1 m1 u1 z2 m2 u2 t hB h1 h2; exact h1.elim
  | f + 1 => same_step (same_all f)
end Go.Proofs.Ytkhmbceadeejpaa

/- Tokens that are put down with a blank behind each are the same tokens. -/
namespace Go.Proofs.Ytkhmbceadeejpaa
set_option linter.unusedVariables false
set_option linter.unusedSimpArgs false
open Go.RowKit

/-- What stands behind: nothing, or a blank. -/
def BoundB (cs ds : List Int) (a : Nat) : Prop := a + ds.length = cs.length ∨ cs.getD (a + ds.length) 0 = 32
theorem BoundB.no {cs ds : List Int} {a : Nat} (h : BoundB cs ds a) {p : Int → Bool} (hp : p 32 = false) : a + ds.length = cs.length ∨ p (cs.getD (a + ds.length) 0) = false := by
  rcases h with h | h
  · exact Or.inl h
  · right; rw [h]; exact hp
theorem Seg.next3 {ne : ByteArray → Int} {cs ds : List Int} {a i : Nat} (h : Seg cs ds a) (hb : BoundB cs ds a) (hi : i < ds.length) (h0 : (nextF ne ds i).2.2 = 0) : nextF ne cs (a + i) = ((nextF ne ds i).1, a + (nextF ne ds i).2.1, 0) := by
  have hle := h.le
  have hg := h.get hi
  unfold nextF at h0 ⊢
  rw [hg] at h0 ⊢
  by_cases h1 : cs.getD (a + i) 0 = 175 ∨ dg (cs.getD (a + i) 0) = true
  · rw [if_pos h1] at h0 ⊢
    rw [if_pos h1]
    simp only at h0 ⊢
    have hr := h.run (i := i + 1) inn (by omega) (h.far (i := i + 1) inn (by omega) (hb.no (by decide)))
    rw [show a + (i + 1) = a + i + 1 by omega] at hr
    have hl := runEnd_le inn ds (i + 1) (by omega)
    rw [h.cut hl.2, hr] at h0
    rw [h0, hr]
  rw [if_neg h1] at h0 ⊢
  rw [if_neg h1]
  by_cases h2 : cs.getD (a + i) 0 = 39
  · rw [if_pos h2] at h0 ⊢
    rw [if_pos h2]
    cases hq : qscan ds ds.length (i + 1) [] with
    | none => rw [hq] at h0; simp at h0
    | some p =>
      have := h.q2 (by rcases hb with hb | hb; exact Or.inl hb; right; rw [hb]; decide) _ (i + 1) cs.length [] p.1 p.2 hq (by omega)
      rw [show a + (i + 1) = a + i + 1 by omega] at this
      rw [this]
  rw [if_neg h2] at h0 ⊢
  rw [if_neg h2]
  by_cases h3 : bn (cs.getD (a + i) 0) = true
  · rw [if_pos h3] at h0 ⊢
    rw [if_pos h3]
    have hr := h.run inm (Nat.le_of_lt hi) (h.far inm (Nat.le_of_lt hi) (hb.no (by decide)))
    by_cases h4 : runEnd inm ds i - i ≤ 32
    · rw [if_pos h4, if_pos (by omega), hr]
    · rw [if_neg h4] at h0; simp at h0
  rw [if_neg h3] at h0 ⊢
  rw [if_neg h3]
  by_cases h4 : cs.getD (a + i) 0 = 9109
  · rw [if_pos h4, if_pos h4]
    simp only
    have hr := h.run (i := i + 1) lt (by omega) (h.far (i := i + 1) lt (by omega) (hb.no (by decide)))
    rw [show a + (i + 1) = a + i + 1 by omega] at hr
    rw [hr]
  rw [if_neg h4] at h0 ⊢
  rw [if_neg h4]
  by_cases h5 : cs.getD (a + i) 0 ∈ decs prims prims.size 0
  · rw [if_pos h5, if_pos h5]
    simp only
    rw [show a + i + 1 = a + (i + 1) by omega]
  rw [if_neg h5] at h0 ⊢
  rw [if_neg h5]
  by_cases h6 : cs.getD (a + i) 0 ∈ decs sgns sgns.size 0
  · rw [if_pos h6, if_pos h6]
    simp only
    rw [show a + i + 1 = a + (i + 1) by omega]
  rw [if_neg h6] at h0; simp at h0

/-- Characters that are one token. -/
def Tok1 (ne : ByteArray → Int) (ds : List Int) (kd : Int) : Prop := 0 < ds.length ∧ bl (ds.getD 0 0) = false ∧ (¬ ds.getD 0 0 = 9053) ∧ nextF ne ds 0 = (kd, ds.length, 0) ∧ ∀ c ∈ ds, okRune c
theorem singles {ne : ByteArray → Int} {cs : List Int} (hok : ∀ c ∈ cs, okRune c) : ∀ (f i q : Nat), cs.length < i + f → q ≤ cs.length → passTo cs q = i → (∀ x ∈ itemsF ne cs f i, x.2.2.2 = 0) → ∃ L : List (List Int × Int), (itemsF ne cs f i).map kt = L.map (fun p => (p.2, runesBytes p.1)) ++ [(0, ⟨#[]⟩)] ∧ ∀ p ∈ L, Tok1 ne p.1 p.2
  | 0, i, q, hf, hq, hp, _ => by
    have := passTo_le hq
    omega
  | f + 1, i, q, hf, hq, hp, hE => by
    rw [itemsF] at hE ⊢
    by_cases hi : i < cs.length
    · rw [if_pos hi] at hE ⊢
      by_cases h0 : (nextF ne cs i).2.2 = 0
      · rw [if_pos h0] at hE ⊢
        have hj := nextF_end ne cs i hi h0
        have hink := pass_ink hq hp hi
        have hpj := passTo_le hj.2
        obtain ⟨L, h1, h2⟩ := singles hok f (passTo cs (nextF ne cs i).2.1) (nextF ne cs i).2.1 (by omega) hj.2 rfl (fun x hx => hE x (List.mem_cons_of_mem _ hx))
        have hlen : ((cs.drop i).take ((nextF ne cs i).2.1 - i)).length = (nextF ne cs i).2.1 - i := by simp; omega
        have hS : Seg cs ((cs.drop i).take ((nextF ne cs i).2.1 - i)) i := ⟨by rw [hlen]; omega, by rw [hlen]⟩
        have hn := hS.next (ne := ne) (i := 0) (by rw [hlen]; omega) h0 (by rw [hlen, Nat.add_zero]; omega)
        have hg := hS.get (k := 0) (by rw [hlen]; omega)
        rw [Nat.add_zero] at hn hg
        refine ⟨((cs.drop i).take ((nextF ne cs i).2.1 - i), (nextF ne cs i).1) :: L, ?_, fun p hp' => ?_⟩
        · rw [List.map_cons, List.map_cons, List.cons_append, h1]
          rfl
        · rcases List.mem_cons.1 hp' with rfl | hp'
          · refine ⟨by simp only; rw [hlen]; omega, by simp only; rw [hg]; exact hink.1, by simp only; rw [hg]; exact hink.2, by simp only; rw [hn, hlen], fun c hc => hok c (List.mem_of_mem_drop (List.mem_of_mem_take hc))⟩
          · exact h2 p hp'
      · rw [if_neg h0] at hE
        exact absurd (hE _ (List.mem_singleton.2 rfl)) h0
    · rw [if_neg hi]
      exact ⟨[], rfl, fun p h => by cases h⟩
/-- All of them, with a blank behind each, and one more. -/
def blk : List (List Int × Int) → List Int
  | [] => [32]
  | p :: r => p.1 ++ (32 :: blk r)
theorem pass_blank {cs : List Int} {i : Nat} (hi : i < cs.length) (h : bl (cs.getD i 0) = true) : passTo cs i = passTo cs (i + 1) := by
  unfold passTo
  rw [runEnd_step2 hi h]
theorem get_mid (a b : List Int) (c : Int) (r : List Int) : (a ++ (b ++ c :: r)).getD (a.length + b.length) 0 = c := by
  rw [← List.append_assoc, List.getD_eq_getElem?_getD, List.getElem?_append_right (by simp)]
  simp
theorem blanked {ne : ByteArray → Int} : ∀ (L : List (List Int × Int)), (∀ p ∈ L, Tok1 ne p.1 p.2) → ∀ (pre : List Int) (f : Nat), (pre ++ blk L).length < passTo (pre ++ blk L) pre.length + f →
    (itemsF ne (pre ++ blk L) f (passTo (pre ++ blk L) pre.length)).map kt = L.map (fun p => (p.2, runesBytes p.1)) ++ [(0, ⟨#[]⟩)] ∧ ∀ x ∈ itemsF ne (pre ++ blk L) f (passTo (pre ++ blk L) pre.length), x.2.2.2 = 0
  | [], _, pre, f, hf => by
    have hl : (pre ++ blk []).length = pre.length + 1 := by simp [blk]
    have hb : bl ((pre ++ blk []).getD pre.length 0) = true := by
      have := get_mid pre [] 32 []
      rw [List.nil_append, List.length_nil, Nat.add_zero] at this
      rw [blk, this]; decide
    have hp : passTo (pre ++ blk []) pre.length = (pre ++ blk []).length := by
      rw [pass_blank (by omega) hb, ← hl, passTo_end]
    rw [hp] at hf ⊢
    obtain ⟨f, rfl⟩ : ∃ k, f = k + 1 := ⟨f - 1, by omega⟩
    rw [itemsF, if_neg (by omega)]
    exact ⟨rfl, fun x hx => by rw [List.mem_singleton.1 hx]⟩
  | p :: r, hL, pre, f, hf => by
    obtain ⟨h0, h1, h2, h3, h4⟩ := hL p (by simp)
    have hW := win_app pre p.1 (32 :: blk r)
    have e2 : pre ++ blk (p :: r) = (pre ++ (p.1 ++ [32])) ++ blk r := by simp [blk]
    have hpl : (pre ++ (p.1 ++ [32])).length = pre.length + p.1.length + 1 := by simp; omega
    have ih := blanked r (fun q hq => hL q (by simp [hq])) (pre ++ (p.1 ++ [32]))
    rw [← e2, hpl] at ih
    have e1 : pre ++ blk (p :: r) = pre ++ (p.1 ++ 32 :: blk r) := rfl
    rw [← e1] at hW
    have hmid : (pre ++ blk (p :: r)).getD (pre.length + p.1.length) 0 = 32 := get_mid pre p.1 32 (blk r)
    have hlen : pre.length + p.1.length < (pre ++ blk (p :: r)).length := by rw [e1]; simp
    generalize pre ++ blk (p :: r) = cs at *
    have hg := hW.get (k := 0) h0
    rw [Nat.add_zero] at hg
    have hp0 : passTo cs pre.length = pre.length := pass_stop (by omega) (by rw [← hg]; exact h1) (by rw [← hg]; exact h2)
    have hn := hW.next3 (ne := ne) (i := 0) (Or.inr hmid) h0 (by rw [h3])
    rw [h3, Nat.add_zero] at hn
    simp only at hn
    have hpb : passTo cs (pre.length + p.1.length) = passTo cs (pre.length + p.1.length + 1) := pass_blank hlen (by rw [hmid]; decide)
    have hpb2 := passTo_le (cs := cs) (i := pre.length + p.1.length + 1) (by omega)
    rw [hp0] at hf ⊢
    obtain ⟨f, rfl⟩ : ∃ k, f = k + 1 := ⟨f - 1, by omega⟩
    have ih2 := ih f (by omega)
    have hcut := hW.cut (i := 0) (Nat.le_refl _)
    rw [Nat.add_zero, cut_whole] at hcut
    rw [itemsF, if_pos (by omega), hn]
    simp only [if_true]
    rw [hpb]
    refine ⟨?_, fun x hx => ?_⟩
    · rw [List.map_cons, ih2.1, List.map_cons, List.cons_append]
      congr 1
      unfold kt
      simp only
      rw [hcut]
    · rcases List.mem_cons.1 hx with rfl | hx
      · rfl
      · exact ih2.2 x hx
def blkT : List ByteArray → List UInt8
  | [] => []
  | T :: r => T.data.toList ++ (32 :: blkT r)
theorem blk_text : ∀ (L : List (List Int × Int)), (runesBytes (blk L)).data.toList = blkT (L.map (fun p => runesBytes p.1) ++ [⟨#[]⟩])
  | [] => by decide +kernel
  | p :: r => by
    rw [blk, runes_app2, show (32 :: blk r : List Int) = [32] ++ blk r from rfl, runes_app2, blk_text r, show (runesBytes [32]).data.toList = [32] by decide +kernel]
    rfl
theorem blk_ok {ne : ByteArray → Int} : ∀ (L : List (List Int × Int)), (∀ p ∈ L, Tok1 ne p.1 p.2) → ∀ c ∈ blk L, okRune c
  | [], _, c, hc => by
    rw [blk] at hc
    rw [List.mem_singleton.1 hc]
    unfold okRune; omega
  | p :: r, h, c, hc => by
    rw [blk] at hc
    rcases List.mem_append.1 hc with hc | hc
    · exact (h p (by simp)).2.2.2.2 c hc
    · rcases List.mem_cons.1 hc with rfl | hc
      · unfold okRune; omega
      · exact blk_ok r (fun q hq => h q (by simp [hq])) c hc
/-- A line's tokens, put down with a blank behind each, are the same tokens again. -/
theorem all_blanks {ne : ByteArray → Int} {s J : ByteArray} (h : (allF ne s).2.1 = 0) (hJ : J.data.toList = blkT ((allF ne s).1.map (fun x => x.2.1))) (hs : J.size ≤ 1024) : (allF ne J).2 = (0, 0) ∧ (allF ne J).1.map kt = (allF ne s).1.map kt := by
  obtain ⟨h1, h2, h3, h4⟩ := allF_ok h
  have hok : ∀ c ∈ (scanR s s.size 0 []).1, okRune c := scanR_ok s s.size 0 [] (fun c h => by cases h)
  rw [h3] at hJ ⊢
  generalize (scanR s s.size 0 []).1 = cs at *
  have hp := passTo_le (cs := cs) (i := 0) (Nat.zero_le _)
  obtain ⟨L, l1, l2⟩ := singles hok (cs.length + 1) (passTo cs 0) 0 (by omega) (Nat.zero_le _) rfl (itemsF_er ne cs _ _ h4)
  have l1' : (items ne cs).map kt = L.map (fun p => (p.2, runesBytes p.1)) ++ [(0, ⟨#[]⟩)] := l1
  have ht : (items ne cs).map (fun x => x.2.1) = L.map (fun p => runesBytes p.1) ++ [⟨#[]⟩] := by
    have e : (items ne cs).map (fun x => x.2.1) = ((items ne cs).map kt).map Prod.snd := by rw [List.map_map]; rfl
    rw [e, l1']
    simp
  rw [ht, ← blk_text L] at hJ
  obtain rfl : J = runesBytes (blk L) := ByteArray.ext (Array.toList_inj.1 hJ)
  have hB := passTo_le (cs := blk L) (i := 0) (Nat.zero_le _)
  have hbl := blanked L l2 [] ((blk L).length + 1) (by rw [List.nil_append, List.length_nil]; omega)
  rw [List.nil_append, List.length_nil] at hbl
  have hi : (items ne (blk L)).map kt = L.map (fun p => (p.2, runesBytes p.1)) ++ [(0, ⟨#[]⟩)] := hbl.1
  have hE : ∀ x ∈ items ne (blk L), x.2.2.2 = 0 := hbl.2
  have ha : allF ne (runesBytes (blk L)) = (items ne (blk L), 0, 0) := by
    unfold allF
    rw [if_neg (by omega), scan_back _ (blk_ok L l2)]
    simp only
    rw [if_neg (by simp), if_pos (lastEr_all hE)]
  rw [ha]
  exact ⟨rfl, by simp only; rw [hi, l1']⟩
theorem all_long {ne : ByteArray → Int} {J : ByteArray} (h : 1024 < J.size) : (allF ne J).2.1 = 25 := by
  unfold allF
  rw [if_pos h]
theorem blkT_snoc : ∀ (l : List ByteArray) (T : ByteArray), blkT (l ++ [T]) = blkT l ++ (T.data.toList ++ [32])
  | [], T => by simp [blkT]
  | U :: r, T => by rw [List.cons_append, blkT, blkT_snoc r T, blkT]; simp
end Go.Proofs.Ytkhmbceadeejpaa
