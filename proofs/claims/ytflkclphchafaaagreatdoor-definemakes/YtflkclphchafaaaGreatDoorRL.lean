/- The document's label of a line. -/
import Derived.Test.YtflkclphchafaaaGreatDoorRC
import Derived.Test.YtflkclphchafaaaGreatDoorRB
import Derived.Test.YtflkclphchafaaaGreatDoorRA
import Derived.Deep.RegionHeld3
import Derived.Test.YtflkclphchafaaaGreatDoorDE
namespace Go.Proofs.YtflkclphchafaaaGreatDoor
set_option linter.unusedVariables false
set_option linter.unusedSimpArgs false
open Go.RowKit Go.Shelf

theorem col_six {ne : ByteArray → Int} {s : ByteArray} (h : (allF ne s).2.1 = 0) (h3 : tkd (refAllF ne s).1 0 = 3) (hc : ttx (refAllF ne s).1 1 = colT) : tkd (refAllF ne s).1 1 = 6 := by
 obtain ⟨_, _, l, p, p', e1, e2⟩ := ref_row h
 obtain ⟨h1, h2, r3, r4⟩ := allF_ok h
 have hok : ∀ c ∈ (scanR s s.size 0 []).1, okRune c := scanR_ok s _ 0 [] (fun c hc => by cases hc)
 rw [e2, kd_end l p' p, ← e1, r3] at h3 ⊢
 rw [e2, tx_end l p' p, ← e1, r3] at hc
 obtain ⟨e0, i1, hL⟩ := items_lab hok h3 hc
 obtain ⟨g, hg, _⟩ := lab_items hL
 rw [hg]
 rfl
theorem conv_none (W : World) (ad : Addr) (cap : Nat) : (convert 74 9 (.slice (some ad) 0 cap)).run Tryz.prog W = .ok (.string ⟨#[]⟩) W :=
 run_convert_runes (P := Tryz.prog) W 74 9 21 ad 0 cap [] (by simp) Tryz.underlying74 Tryz.underlying21 Tryz.underlying9 (fun m hm => by simp at hm)
set_option maxRecDepth 100000 in
set_option maxHeartbeats 16000000 in
theorem refLabel_any {w : World} {ne : ByteArray → Int} (hne : TellsErr ne) (s : ByteArray) (hs : s.size ≤ 9223372036854775807) (hT : Lib.Utf8Tabs 0 1 w) (h0 : (allF ne s).2.1 = 0) :
    Calls Tryz.prog 21 #[.string s] w fun e w' => ∃ b, e = .returned (.tuple #[.string (labF ne s).1, .string b]) ∧ Below w.heap.size w w' := by
 have HLB : Hid ((labF ne s).1 = dlabF (refAllF ne s).1) := by unfold Hid; rw [lab_doc h0, (ref_facts h0).2.2.2]
 have HS6 : Hid (tkd (refAllF ne s).1 0 = 3 → ttx (refAllF ne s).1 1 = colT → tkd (refAllF ne s).1 1 = 6) := col_six h0
 have HPL : Hid (¬ tkd (refAllF ne s).1 1 = 0 → tpl (refAllF ne s).1 1 < (scanR s s.size 0 []).1.length) := ref_place h0
 have HTB : Hid (Lib.Utf8Tabs 0 1 w) := hT
 have hss := (allF_ok h0).1
 obtain ⟨LB, hLB⟩ : ∃ LB, LB = (labF ne s).1 := ⟨_, rfl⟩
 rw [← hLB] at HLB ⊢
 clear hLB
 go_enter Tryz.func21, Tryz.ntmps21
 go_wp2_with fail
 refine (refToks_any hne s hs hT).mono ?_
 clear hT hne
 rintro e w1 ⟨hcase, k1⟩
 rcases hcase with ⟨_, g, c, rfl, hc1, hc2, hg, hT1⟩ | ⟨her, _⟩
 rotate_left
 · exact absurd h0 her
 clear h0 hg
 have s1 := k1.size
 generalize (refAllF ne s).1 = T at *
 have hgl := hT1.lt
 have hfew := hT1.few
 have hnn : (0 : Int) < (T.length : Int) := by have := hT1.row.endT.pos; omega
 obtain ⟨b1, p1⟩ := tx_isD (ttx T 1) colT [58] rfl
 by_cases hl2 : 2 < T.length
 case neg =>
  have HN : Hid (LB = noT) := by unfold Hid; rw [HLB.out]; unfold dlabF; rw [if_neg (fun h => hl2 h.1)]
  have m2 : ¬ (2 : Int) < (T.length : Int) := by omega
  have m3 : ((T.length : Int) == 3) = false := by rw [beq_eq_false_iff_ne]; omega
  clear HLB HS6 HPL HTB hT1 b1 p1
  go_wp2_with fail
  refine (refTrim_any s w1 (by omega)).mono ?_
  rintro e w2 ⟨rfl, hw⟩
  obtain rfl := hw
  go_wp2
  go_ret2
  exact ⟨_, (by rw [HN.out]; rfl), k1⟩
 have m2 : (2 : Int) < (T.length : Int) := by omega
 have q0 := hT1.kd 0 (by omega)
 have q1 := hT1.tx 0 (by omega)
 have r0 := hT1.kd 1 (by omega)
 have r1 := hT1.tx 1 (by omega)
 have r2 := hT1.pl 1 (by omega)
 have i1 : (1 : Int) < (T.length : Int) := by omega
 clear hT1
 by_cases h3 : tkd T 0 = 3
 case neg =>
  have HN : Hid (LB = noT) := by unfold Hid; rw [HLB.out]; unfold dlabF; rw [if_neg (fun h => h3 h.2.1)]
  have e3 : (tkd T 0 == 3) = false := by rw [beq_eq_false_iff_ne]; exact h3
  by_cases hl3 : T.length = 3
  case' pos => have m3 : ((T.length : Int) == 3) = true := by rw [beq_iff_eq]; omega
  case' neg => have m3 : ((T.length : Int) == 3) = false := by rw [beq_eq_false_iff_ne]; omega
  all_goals
   generalize tkd T 0 = x0 at *
   clear HLB HS6 HPL HTB b1 p1 h3 hl3 r0 r1 r2 q1
   go_wp2_with fail
   refine (refTrim_any s w1 (by omega)).mono ?_
   rintro e w2 ⟨rfl, hw⟩
   obtain rfl := hw
   go_wp2
   go_ret2
   exact ⟨_, (by rw [HN.out]; rfl), k1⟩
 by_cases hc : ttx T 1 = colT
 case neg =>
  have HN : Hid (LB = noT) := by unfold Hid; rw [HLB.out]; unfold dlabF; rw [if_neg (fun h => hc h.2.2)]
  have p2 : ¬ (ttx T 1).toList = [58] := fun h => hc (p1.1 h)
  rw [decide_eq_false hc] at b1
  rw [h3] at q0
  by_cases hl3 : T.length = 3
  case' pos => have m3 : ((T.length : Int) == 3) = true := by rw [beq_iff_eq]; omega
  case' neg => have m3 : ((T.length : Int) == 3) = false := by rw [beq_eq_false_iff_ne]; omega
  all_goals by_cases h6 : tkd T 1 = 6
  all_goals first | rw [h6] at r0 | have e6 : (tkd T 1 == 6) = false := by rw [beq_eq_false_iff_ne]; exact h6
  all_goals
   generalize tkd T 1 = x6 at *
   generalize ttx T 1 = x1 at *
   clear HLB HS6 HPL HTB p1 h3 hl3 r2 q1 hc h6
   go_wp2_with fail
   refine (refTrim_any s w1 (by omega)).mono ?_
   rintro e w2 ⟨rfl, hw⟩
   obtain rfl := hw
   go_wp2
   go_ret2
   exact ⟨_, (by rw [HN.out]; rfl), k1⟩
 have h6 := HS6.out h3 hc
 have HN : Hid (LB = ttx T 0) := by unfold Hid; rw [HLB.out]; unfold dlabF; rw [if_pos ⟨hl2, h3, hc⟩]
 have HP : Hid (tpl T 1 < (scanR s s.size 0 []).1.length) := HPL.out (by rw [h6]; decide)
 have p2 := p1.2 hc
 rw [decide_eq_true hc] at b1
 rw [h3] at q0
 rw [h6] at r0
 clear HLB HS6 HPL p1 h3 hc h6
 generalize ttx T 0 = y at *
 generalize ttx T 1 = x1 at *
 generalize tpl T 1 = pl at *
 go_wp2_with fail
 refine (refRunes_any s w1 (by omega) (Utf8Tabs.to HTB.out k1 (Nat.le_refl _))).mono ?_
 rintro e w2 ⟨cs, a, cc, er, at', rfl, hO, HD, k2⟩
 rw [HD.out] at HP
 have hpl : pl < cs.length := HP.out
 have hcl : cs.length ≤ 1024 := by
  have := scanR_len s s.size 0 [] (Nat.le_refl _) (Nat.zero_le _)
  rw [HD.out] at this
  simp only at this
  omega
 obtain ⟨ar, cr, he, hk3, hk4, hk5⟩ := hO.rdR
 obtain ⟨har, _, hcr⟩ := Value.slice.inj he
 rw [← har] at hk5
 rw [← hcr] at hk3 hk4
 rcases hk5 with hk5 | ⟨b, off, hab, hb, hcell⟩
 · omega
 have HC : Hid (∀ m, m < cs.length → w2.cell? ⟨b, off + m, none⟩ = some (.int .i32 (cs.getD m 0))) := hcell
 subst hab
 clear he hcell hO HD HP HTB har hcr
 have t1 := (k2.cell (p := ⟨g, 1, none⟩) hgl).trans q1
 have t2 : w2.cell? ⟨g, 7, none⟩ = some (.int .i64 (pl : Int)) := (k2.cell (p := ⟨g, 1 * 5 + 2, none⟩) hgl).trans r2
 have s2 := k2.size
 have kk : Below w.heap.size w w2 := k1.trans (k2.mono s1)
 obtain ⟨p3, hp3⟩ : ∃ p3 : Nat, (pl : Int) + 1 = (p3 : Int) := ⟨pl + 1, rfl⟩
 have hj0 : p3 ≤ cs.length := by omega
 have hj1 : (p3 : Int) ≤ (cs.length : Int) := by omega
 have hw1 : IntKind.i64.wrap ((pl : Int) + 1) = (p3 : Int) := by rw [hp3]; exact (by rw [IntKind.wrap_i64]; omega)
 have hw2 : IntKind.i64.wrap (p3 : Int) = (p3 : Int) := (by rw [IntKind.wrap_i64]; omega)
 have hj2 : (cs.length : Int) ≤ (cc : Int) := by omega
 have hj3 : (0 : Int) ≤ (p3 : Int) := by omega
 have n0 : 0 < T.length := by omega
 have n1 : 1 < T.length := by omega
 clear q0 q1 r0 r1 r2 b1 p2 hpl
 by_cases hpc : cc = p3
 · obtain hn : cs.length = cc := by omega
   have hcv : ∀ W, (convert 74 9 (.slice (some ⟨b, off, none⟩) 0 0)).run Tryz.prog W = .ok (.string ⟨#[]⟩) W := fun W => conv_none W _ _
   have hz : (⟨#[]⟩ : ByteArray).size ≤ 2000000 := by decide
   rw [hn] at *
   subst hpc
   clear hn HC
   go_wp2_with fail
   go_region_held3 (fun w' => w'.cell? ⟨g, 1, none⟩ = some (.string y) ∧ w'.cell? ⟨g, 7, none⟩ = some (.int .i64 (pl : Int))) (first | (go_keep; done) | exact tw)
    (first | (go_at_call 37; refine (refTrim_any _ _ hz).mono ?_; rintro e w3 ⟨rfl, rfl⟩; have tw : w2.drew.cell? ⟨g, 1, none⟩ = some (.string y) ∧ w2.drew.cell? ⟨g, 7, none⟩ = some (.int .i64 (pl : Int)) := ⟨t1, t2⟩))
   all_goals
    have g4 : Below w.heap.size w w2.drew := ⟨kk.os, kk.tape, kk.output, kk.size, kk.block⟩
    go_wp2
    go_ret2
    exact ⟨_, (by rw [HN.out]; rfl), g4⟩
 · have hci : ¬ cc = p3 := hpc
   have hcj : ¬ p3 = cc := fun e => hpc e.symm
   have hcz : ¬ cc - p3 = 0 := by omega
   have hts : (cutText cs p3 cs.length).size ≤ 2000000 := cut_size (Nat.le_refl _) hcl
   have HCV : Hid (∀ W, Below w2.heap.size w2 W → (convert 74 9 (.slice (some ⟨b, off + p3, none⟩) (cs.length - p3) (cc - p3))).run Tryz.prog W = .ok (.string (cutText cs p3 cs.length)) W) := fun W hW => conv_cutS (Nat.le_refl _) (fun m hm => (hW.cell (p := ⟨b, off + m, none⟩) hb).trans (HC.out m hm))
   generalize cutText cs p3 cs.length = TX at *
   have hcv := HCV.out w2 (Below.refl _ _)
   have hcv2 := HCV.out w2.drew ⟨rfl, rfl, rfl, Nat.le_refl _, fun _ _ => rfl⟩
   clear HC HCV hpc
   go_wp2_with fail
   go_region_held3 (fun w' => w'.cell? ⟨g, 1, none⟩ = some (.string y) ∧ w'.cell? ⟨g, 7, none⟩ = some (.int .i64 (pl : Int)) ∧ (convert 74 9 (.slice (some ⟨b, off + p3, none⟩) (cs.length - p3) (cc - p3))).run Tryz.prog w' = .ok (.string TX) w') (first | (go_keep; done) | exact tw)
    (first | (go_at_call 37; refine (refTrim_any _ _ hts).mono ?_; rintro e w3 ⟨rfl, rfl⟩; have tw : w2.drew.cell? ⟨g, 1, none⟩ = some (.string y) ∧ w2.drew.cell? ⟨g, 7, none⟩ = some (.int .i64 (pl : Int)) ∧ (convert 74 9 (.slice (some ⟨b, off + p3, none⟩) (cs.length - p3) (cc - p3))).run Tryz.prog w2.drew = .ok (.string TX) w2.drew := ⟨t1, t2, hcv2⟩))
   all_goals
    have g4 : Below w.heap.size w w2.drew := ⟨kk.os, kk.tape, kk.output, kk.size, kk.block⟩
    go_wp2
    go_ret2
    exact ⟨_, (by rw [HN.out]; rfl), g4⟩
end Go.Proofs.YtflkclphchafaaaGreatDoor

/- glyphref12.Same of two functions that are the same. -/
namespace Go.Proofs.YtflkclphchafaaaGreatDoor
set_option linter.unusedVariables false
set_option linter.unusedSimpArgs false
open Go.RowKit

/-- A slice of ints that can be read. -/
def RdI (B : Nat) (w : World) (v : Value) (xs : List Int) : Prop := ∃ a c, v = .slice a xs.length c ∧ xs.length ≤ c ∧ c ≤ 9223372036854775807 ∧ (xs = [] ∨ ∃ g o, a = some ⟨g, o, none⟩ ∧ g < B ∧ ∀ j, j < xs.length → w.cell? ⟨g, o + j, none⟩ = some (.int .i64 (xs.getD j 0)))
theorem RdI.nil (B : Nat) (w : World) : RdI B w (.slice none 0 0) [] := ⟨none, 0, rfl, by simp, by omega, Or.inl rfl⟩
theorem RdI.below {B C : Nat} {w w' : World} {v : Value} {xs : List Int} (h : RdI B w v xs) (k : Below C w w') (hC : B ≤ C) : RdI B w' v xs := by
 obtain ⟨a, c, h1, h2, h3, h4⟩ := h
 refine ⟨a, c, h1, h2, h3, ?_⟩
 rcases h4 with h4 | ⟨g, o, h4, h5, h6⟩
 · exact Or.inl h4
 · exact Or.inr ⟨g, o, h4, h5, fun j hj => by rw [k.cell (p := ⟨g, o + j, none⟩) (by show g < C; omega)]; exact h6 j hj⟩
theorem RdI.mono {B C : Nat} {w : World} {v : Value} {xs : List Int} (h : RdI B w v xs) (hC : B ≤ C) : RdI C w v xs := by
 obtain ⟨a, c, h1, h2, h3, h4⟩ := h
 refine ⟨a, c, h1, h2, h3, ?_⟩
 rcases h4 with h4 | ⟨g, o, h4, h5, h6⟩
 · exact Or.inl h4
 · exact Or.inr ⟨g, o, h4, by omega, h6⟩
theorem RdI.ptr {B : Nat} {w : World} {a : Option Addr} {n c : Nat} {xs : List Int} (h : RdI B w (.slice a n c) xs) (h0 : 0 < xs.length) : ∃ g o, a = some ⟨g, o, none⟩ ∧ g < B ∧ ∀ j, j < xs.length → w.cell? ⟨g, o + j, none⟩ = some (.int .i64 (xs.getD j 0)) := by
 obtain ⟨a', c', h1, h2, h3, h4⟩ := h
 obtain ⟨rfl, _, _⟩ := Value.slice.inj h1
 rcases h4 with h4 | h4
 · subst h4; simp at h0
 · exact h4
theorem RdI.cap {B : Nat} {w : World} {a : Option Addr} {n c : Nat} {xs : List Int} (h : RdI B w (.slice a n c) xs) : xs.length ≤ c ∧ c ≤ 9223372036854775807 := by
 obtain ⟨a', c', h1, h2, h3, _⟩ := h
 obtain ⟨_, _, e3⟩ := Value.slice.inj h1
 omega
theorem RdI.of_row {base : Nat} {w : World} {v : Value} {xs : List Int} (h : OwI base w v xs) : RdI w.heap.size w v xs := by
 have h' := h
 obtain ⟨h1, ⟨hv, hn⟩ | ⟨g, cap, cur, hv, hg, hh, r1, r2, r3, r4⟩⟩ := h'
 · have : xs = [] := List.eq_nil_of_length_eq_zero hn
   subst this
   rw [hv]
   exact RdI.nil _ _
 · subst hv
   refine ⟨some ⟨g, 0, none⟩, cap, rfl, r1, r2, Or.inr ⟨g, 0, rfl, lt_of_block hh, fun j hj => ?_⟩⟩
   rw [Nat.zero_add, World.ownsRow.cellAt h j (by omega), List.getElem?_map, List.getElem?_eq_getElem hj]
   simp [List.getD_eq_getElem?_getD, List.getElem?_eq_getElem hj]
set_option maxRecDepth 100000 in
set_option maxHeartbeats 4000000 in
theorem sameTexts_is {B B' : Nat} {w : World} {a a' : Option Addr} {c c' : Nat} {ss : List ByteArray} (h1 : RdS B w (.slice a ss.length c) ss) (h2 : RdS B' w (.slice a' ss.length c') ss) :
    Calls Tryz.prog 38 #[.slice a ss.length c, .slice a' ss.length c'] w fun e w' => e = .returned (.bool true) ∧ ∃ q, w' = w.drewN q := by
 have H1 : Hid (RdS B w (.slice a ss.length c) ss) := h1
 have H2 : Hid (RdS B' w (.slice a' ss.length c') ss) := h2
 obtain ⟨hc1, hc2⟩ := h1.cap
 clear h1 h2
 go_enter Tryz.func38, Tryz.ntmps38
 go_wp2
 go_loopw [5] (fun s wr => (∃ q, wr = w.drewN q) ∧ ∃ j : Nat, j ≤ ss.length ∧ s = .int .i64 j) (fun s _ => ss.length - (intOf s).toNat)
 case atStart => exact ⟨⟨0, rfl⟩, 0, Nat.zero_le _, rfl⟩
 case round =>
  obtain ⟨⟨q, rfl⟩, j, hj, rfl⟩ := hrel
  by_cases hlt : j < ss.length
  · obtain ⟨g, o, rfl, hg, hc⟩ := H1.out.ptr (by omega)
    obtain ⟨g', o', rfl, hg', hc'⟩ := H2.out.ptr (by omega)
    have q1 := hc j hlt
    have q2 := hc' j hlt
    generalize ss.getD j noT = p at *
    clear hc hc'
    go_wp2
    go_quiet (fail)
    go_wp2
    go_roundw
    case rel => exact ⟨⟨_, rfl⟩, j + 1, by omega, by go_num⟩
    case measure => simp [intOf]; omega
  · go_wp2
    go_ret
    exact ⟨rfl, _, rfl⟩
set_option maxRecDepth 100000 in
set_option maxHeartbeats 8000000 in
theorem sameFn_is {B : Nat} {w : World} {nm rs lf rt : ByteArray} {lo lb ln : List ByteArray} {ats : List Int} {a1 b1 a2 b2 a3 b3 a4 b4 : Option Addr} {c1 d1 c2 d2 c3 d3 c4 d4 : Nat} (h1 : RdS B w (.slice a1 lo.length c1) lo) (g1 : RdS B w (.slice b1 lo.length d1) lo) (h2 : RdS B w (.slice a2 lb.length c2) lb) (g2 : RdS B w (.slice b2 lb.length d2) lb) (h3 : RdI B w (.slice a3 ats.length c3) ats) (g3 : RdI B w (.slice b3 ats.length d3) ats) (h4 : RdS B w (.slice a4 ln.length c4) ln) (g4 : RdS B w (.slice b4 ln.length d4) ln) (hB : B ≤ w.heap.size) :
    Calls Tryz.prog 23 #[.agg (fnV nm rs lf rt (.slice a1 lo.length c1) (.slice a2 lb.length c2) (.slice a3 ats.length c3) (.slice a4 ln.length c4) false), .agg (fnV nm rs lf rt (.slice b1 lo.length d1) (.slice b2 lb.length d2) (.slice b3 ats.length d3) (.slice b4 ln.length d4) false)] w fun e w' => e = .returned (.bool true) ∧ Below w.heap.size w w' := by
 have k0 := below_alloc w (.cells (fnV nm rs lf rt (.slice a1 lo.length c1) (.slice a2 lb.length c2) (.slice a3 ats.length c3) (.slice a4 ln.length c4) false) 25)
 have F0 := boxA_new w (fnV nm rs lf rt (.slice a1 lo.length c1) (.slice a2 lb.length c2) (.slice a3 ats.length c3) (.slice a4 ln.length c4) false) 25
 generalize hW0 : w.alloc (.cells (fnV nm rs lf rt (.slice a1 lo.length c1) (.slice a2 lb.length c2) (.slice a3 ats.length c3) (.slice a4 ln.length c4) false) 25) = w0 at *
 have s0 : w0.heap.size = w.heap.size + 1 := by rw [← hW0]; simp
 have k1 := below_alloc w0 (.cells (fnV nm rs lf rt (.slice b1 lo.length d1) (.slice b2 lb.length d2) (.slice b3 ats.length d3) (.slice b4 ln.length d4) false) 25)
 have G0 := boxA_new w0 (fnV nm rs lf rt (.slice b1 lo.length d1) (.slice b2 lb.length d2) (.slice b3 ats.length d3) (.slice b4 ln.length d4) false) 25
 have F1 := F0.below k1 (by omega)
 generalize hW1 : w0.alloc (.cells (fnV nm rs lf rt (.slice b1 lo.length d1) (.slice b2 lb.length d2) (.slice b3 ats.length d3) (.slice b4 ln.length d4) false) 25) = w1 at *
 have s1 : w1.heap.size = w.heap.size + 2 := by rw [← hW1]; simp; omega
 have kk : Below w.heap.size w w1 := k0.trans (k1.mono (by omega))
 have HC1 : Hid (∀ W, Below w1.heap.size w1 W → Calls Tryz.prog 38 #[.slice a1 lo.length c1, .slice b1 lo.length d1] W _) := fun W kW => sameTexts_is ((h1.below kk hB).below kW (by omega)) ((g1.below kk hB).below kW (by omega))
 have HC2 : Hid (∀ W, Below w1.heap.size w1 W → Calls Tryz.prog 38 #[.slice a2 lb.length c2, .slice b2 lb.length d2] W _) := fun W kW => sameTexts_is ((h2.below kk hB).below kW (by omega)) ((g2.below kk hB).below kW (by omega))
 have HC4 : Hid (∀ W, Below w1.heap.size w1 W → Calls Tryz.prog 38 #[.slice a4 ln.length c4, .slice b4 ln.length d4] W _) := fun W kW => sameTexts_is ((h4.below kk hB).below kW (by omega)) ((g4.below kk hB).below kW (by omega))
 have HA : Hid (∀ W, Below w1.heap.size w1 W → RdI B W (.slice a3 ats.length c3) ats) := fun W kW => (h3.below kk hB).below kW (by omega)
 have HA' : Hid (∀ W, Below w1.heap.size w1 W → RdI B W (.slice b3 ats.length d3) ats) := fun W kW => (g3.below kk hB).below kW (by omega)
 obtain ⟨m1, m2⟩ := h3.cap
 obtain ⟨n1, n2⟩ := g3.cap
 clear h1 g1 h2 g2 h3 g3 h4 g4 k0 F0
 have G1 := G0
 rw [s0] at G1
 clear G0 k1
 have hcells : ∀ {W : World}, Below w1.heap.size w1 W → W.cell? ⟨w.heap.size, 6, none⟩ = some (.slice a3 ats.length c3) ∧ W.cell? ⟨w.heap.size + 1, 6, none⟩ = some (.slice b3 ats.length d3) := fun kW => ⟨(F1.below kW (by omega)).cell 6 rfl, (G1.below kW (by omega)).cell 6 rfl⟩
 have y0 := F1.cell 0 rfl
 have y1 := F1.cell 1 rfl
 have y2 := F1.cell 2 rfl
 have y3 := F1.cell 3 rfl
 have y6 := F1.cell 6 rfl
 have y8 := F1.cell 8 rfl
 have z0 := G1.cell 0 rfl
 have z1 := G1.cell 1 rfl
 have z2 := G1.cell 2 rfl
 have z3 := G1.cell 3 rfl
 have z6 := G1.cell 6 rfl
 have z8 := G1.cell 8 rfl
 go_enter Tryz.func23, Tryz.ntmps23
 go_wp2
 clear y0 y1 y2 y3 y6 y8 z0 z1 z2 z3 z6 z8 hW0 hW1
 go_loopw [5] (fun s wr => (∃ q, wr = w1.drewN q) ∧ ∃ j : Nat, j ≤ ats.length ∧ s = .int .i64 j) (fun s _ => ats.length - (intOf s).toNat)
 case atStart => exact ⟨⟨0, rfl⟩, 0, Nat.zero_le _, rfl⟩
 case round =>
  obtain ⟨⟨q, rfl⟩, j, hj, rfl⟩ := hrel
  have kq : Below w1.heap.size w1 (w1.drewN q) := below_drewN' (Below.refl _ _) q
  obtain ⟨y6, z6⟩ := hcells (Below.refl w1.heap.size w1)
  by_cases hlt : j < ats.length
  · obtain ⟨g, o, rfl, hg, hc⟩ := (HA.out _ (Below.refl _ _)).ptr (by omega)
    obtain ⟨g', o', rfl, hg', hc'⟩ := (HA'.out _ (Below.refl _ _)).ptr (by omega)
    have q1 := hc j hlt
    have q2 := hc' j hlt
    generalize ats.getD j 0 = p at *
    clear hc hc'
    go_wp2
    go_quiet (fail)
    go_wp2
    go_roundw
    case rel => exact ⟨⟨_, rfl⟩, j + 1, by omega, by go_num⟩
    case measure => simp [intOf]; omega
  · obtain ⟨y6, z6⟩ := hcells kq
    have F2 := F1.below kq (by omega)
    have G2 := G1.below kq (by omega)
    generalize w1.drewN q = w2 at *
    have y4 := F2.cell 4 rfl
    have z4 := G2.cell 4 rfl
    go_wp2_with fail
    refine (HC1.out w2 kq).mono ?_
    rintro e w3 ⟨rfl, q3, h3⟩
    have k3 : Below w1.heap.size w1 w3 := by rw [h3]; exact below_drewN' kq q3
    have y5 := (F1.below k3 (by omega)).cell 5 rfl
    have z5 := (G1.below k3 (by omega)).cell 5 rfl
    clear h3 y4 z4 F2 G2 y6 z6
    go_wp2_with fail
    refine (HC2.out w3 k3).mono ?_
    rintro e w4 ⟨rfl, q4, h4⟩
    have k4 : Below w1.heap.size w1 w4 := by rw [h4]; exact below_drewN' k3 q4
    have y7 := (F1.below k4 (by omega)).cell 7 rfl
    have z7 := (G1.below k4 (by omega)).cell 7 rfl
    clear h4 y5 z5
    go_wp2_with fail
    refine (HC4.out w4 k4).mono ?_
    rintro e w5 ⟨rfl, q5, h5⟩
    have k5 : Below w1.heap.size w1 w5 := by rw [h5]; exact below_drewN' k4 q5
    have g5 : Below w.heap.size w w5 := kk.trans (k5.mono (by omega))
    clear h5 y7 z7
    go_wp2
    go_ret
    exact ⟨rfl, g5⟩
set_option maxRecDepth 100000 in
set_option maxHeartbeats 8000000 in
theorem refSame12_is {B : Nat} {w : World} {nm rs lf rt : ByteArray} {lo lb ln : List ByteArray} {ats : List Int} {a1 b1 a2 b2 a3 b3 a4 b4 : Option Addr} {c1 d1 c2 d2 c3 d3 c4 d4 : Nat} (h1 : RdS B w (.slice a1 lo.length c1) lo) (g1 : RdS B w (.slice b1 lo.length d1) lo) (h2 : RdS B w (.slice a2 lb.length c2) lb) (g2 : RdS B w (.slice b2 lb.length d2) lb) (h3 : RdI B w (.slice a3 ats.length c3) ats) (g3 : RdI B w (.slice b3 ats.length d3) ats) (h4 : RdS B w (.slice a4 ln.length c4) ln) (g4 : RdS B w (.slice b4 ln.length d4) ln) (hB : B ≤ w.heap.size) :
    Calls Tryz.prog 8 #[.agg (fnV nm rs lf rt (.slice a1 lo.length c1) (.slice a2 lb.length c2) (.slice a3 ats.length c3) (.slice a4 ln.length c4) false), .agg (fnV nm rs lf rt (.slice b1 lo.length d1) (.slice b2 lb.length d2) (.slice b3 ats.length d3) (.slice b4 ln.length d4) false)] w fun e w' => e = .returned (.bool true) ∧ Below w.heap.size w w' := by
 have k0 := below_alloc w (.cells (fnV nm rs lf rt (.slice a1 lo.length c1) (.slice a2 lb.length c2) (.slice a3 ats.length c3) (.slice a4 ln.length c4) false) 25)
 have F0 := boxA_new w (fnV nm rs lf rt (.slice a1 lo.length c1) (.slice a2 lb.length c2) (.slice a3 ats.length c3) (.slice a4 ln.length c4) false) 25
 generalize hW0 : w.alloc (.cells (fnV nm rs lf rt (.slice a1 lo.length c1) (.slice a2 lb.length c2) (.slice a3 ats.length c3) (.slice a4 ln.length c4) false) 25) = w0 at *
 have s0 : w0.heap.size = w.heap.size + 1 := by rw [← hW0]; simp
 have k1 := below_alloc w0 (.cells (fnV nm rs lf rt (.slice b1 lo.length d1) (.slice b2 lb.length d2) (.slice b3 ats.length d3) (.slice b4 ln.length d4) false) 25)
 have G0 := boxA_new w0 (fnV nm rs lf rt (.slice b1 lo.length d1) (.slice b2 lb.length d2) (.slice b3 ats.length d3) (.slice b4 ln.length d4) false) 25
 have F1 := F0.below k1 (by omega)
 generalize hW1 : w0.alloc (.cells (fnV nm rs lf rt (.slice b1 lo.length d1) (.slice b2 lb.length d2) (.slice b3 ats.length d3) (.slice b4 ln.length d4) false) 25) = w1 at *
 have s1 : w1.heap.size = w.heap.size + 2 := by rw [← hW1]; simp; omega
 have kk : Below w.heap.size w w1 := k0.trans (k1.mono (by omega))
 have C1 := sameFn_is (nm := nm) (rs := rs) (lf := lf) (rt := rt) (h1.below kk hB) (g1.below kk hB) (h2.below kk hB) (g2.below kk hB) (h3.below kk hB) (g3.below kk hB) (h4.below kk hB) (g4.below kk hB) (by omega)
 have HC1 : Hid (Calls Tryz.prog 23 _ w1 _) := C1
 clear C1 h1 g1 h2 g2 h3 g3 h4 g4 k0 F0
 have G1 := G0
 rw [s0] at G1
 clear G0 k1
 have y0 := F1.cell 0 rfl
 have y1 := F1.cell 1 rfl
 have y2 := F1.cell 2 rfl
 have y3 := F1.cell 3 rfl
 have y4 := F1.cell 4 rfl
 have y5 := F1.cell 5 rfl
 have y6 := F1.cell 6 rfl
 have y7 := F1.cell 7 rfl
 have y8 := F1.cell 8 rfl
 have z0 := G1.cell 0 rfl
 have z1 := G1.cell 1 rfl
 have z2 := G1.cell 2 rfl
 have z3 := G1.cell 3 rfl
 have z4 := G1.cell 4 rfl
 have z5 := G1.cell 5 rfl
 have z6 := G1.cell 6 rfl
 have z7 := G1.cell 7 rfl
 have z8 := G1.cell 8 rfl
 go_enter Tryz.func8, Tryz.ntmps8
 go_wp2_with fail
 refine HC1.out.mono ?_
 rintro e w2 ⟨rfl, k2⟩
 have g5 : Below w.heap.size w w2 := kk.trans (k2.mono (by omega))
 go_wp2
 go_ret
 exact ⟨rfl, g5⟩
end Go.Proofs.YtflkclphchafaaaGreatDoor
