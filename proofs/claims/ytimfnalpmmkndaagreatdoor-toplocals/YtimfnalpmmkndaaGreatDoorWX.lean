/- The law's walk: TopLocals. -/
import Derived.Test.YtimfnalpmmkndaaGreatDoorHX
import Derived.Test.YtimfnalpmmkndaaGreatDoorNG
import Derived.Test.YtimfnalpmmkndaaGreatDoorDE
namespace Go.Proofs.YtimfnalpmmkndaaGreatDoor
set_option linter.unusedVariables false
set_option linter.unusedSimpArgs false
open Go.RowKit

attribute [local go_sem] Oper.semAt_some

structure Stt (f : Nat) (w4 : World) (tb : Nat) (M : Nat → Prop) (W : World) (T : List FrB) : Prop where
 tab : TabIs f M W tb T
 kp : KpM (fun g => g = tb) w4 W
 new : NewM (fun g => g = tb) M w4
section
variable {f : Nat} {w4 W W' : World} {tb : Nat} {M : Nat → Prop} {T T' : List FrB}
theorem Stt.step (h : Stt f w4 tb M W T) {r : Int} {e : Ending} (k : TabAns f M W tb r T' e W') : ∃ M', Stt f w4 tb M' W' T' := by
 obtain ⟨_, M', h1, h2, h3⟩ := k
 exact ⟨M', h1, h.kp.trans h2 h.new, h.new.trans h3 h.kp.size⟩
theorem Stt.below (h : Stt f w4 tb M W T) (k : Below W.heap.size W W') : Stt f w4 tb M W' T := ⟨h.tab.below k, h.kp.trans (KpM.of_below k) (NewM.refl _ _), h.new⟩
def DT (w4 : World) (tb : Nat) : Nat → Prop := fun g => g < w4.heap.size ∧ ¬ g = tb
theorem Stt.dm (h : Stt f w4 tb M W T) : ∀ g, DT w4 tb g → DM M W g := fun g hg => ⟨by have := hg.1; have := h.kp.size; omega, fun e => by
 rcases h.new g e with h1 | h1
 · exact hg.2 h1
 · have := hg.1; omega⟩
theorem Stt.agree (h : Stt f w4 tb M W T) : Agree (DT w4 tb) w4 W := fun g hg => h.kp.block g hg.1 hg.2
theorem Stt.box (h : Stt f w4 tb M W T) {B ty : Nat} {xs : Array Value} (hb : BoxA w4 B ty xs) (hB : ¬ B = tb) : BoxA W B ty xs := hb.of_blk (h.kp.block B hb.lt hB)
theorem RdT.ptrT {D : Nat → Prop} {w : World} {a : Option Addr} {n c : Nat} {ss : List ByteArray} (h : RdT D w (.slice a n c) ss) : ss.length ≤ c ∧ c ≤ 9223372036854775807 ∧ (0 < ss.length → ∃ g o, a = some ⟨g, o, none⟩ ∧ ∀ j, j < ss.length → w.cell? ⟨g, o + j, none⟩ = some (.string (ss.getD j noT))) := by
 obtain ⟨a', c', h1, h2, h3, _, h4⟩ := h
 obtain ⟨rfl, _, rfl⟩ := Value.slice.inj h1
 refine ⟨h2, h3, fun h0 => ?_⟩
 rcases h4 with h4 | ⟨g, o, h4, _, h5⟩
 · subst h4; simp at h0
 · exact ⟨g, o, h4, h5⟩
end
theorem RdN.of_own {base : Nat} {w : World} {v : Value} {xs : List Int} (h : OwI base w v xs) (hx : ∀ x ∈ xs, -9223372036854775808 ≤ x ∧ x ≤ 9223372036854775807) : RdN (Fr base w.heap.size) w v xs := by
 have h' := h
 obtain ⟨h1, ⟨hv, hn⟩ | ⟨g, cap, cur, hv, hg, hh, r1, r2, r3, r4⟩⟩ := h'
 · have : xs = [] := List.eq_nil_of_length_eq_zero hn
   subst this
   rw [hv]
   exact ⟨hx, none, 0, rfl, by simp, by omega, fun _ => rfl, Or.inl rfl⟩
 · subst hv
   refine ⟨hx, some ⟨g, 0, none⟩, cap, rfl, r1, r2, (fun e => by cases e), Or.inr ⟨g, 0, rfl, ⟨hg, lt_of_block hh⟩, fun j hj => ?_⟩⟩
   rw [Nat.zero_add, World.ownsRow.cellAt h j (by omega), List.getElem?_map, List.getElem?_eq_getElem hj, List.getD_eq_getElem?_getD, List.getElem?_eq_getElem hj]
   rfl
theorem getD_memN {ss : List ByteArray} {i : Nat} (h : i < ss.length) : ss.getD i noT ∈ ss := by
 rw [List.getD_eq_getElem?_getD, List.getElem?_eq_getElem h]
 exact List.getElem_mem h
set_option maxRecDepth 100000 in
set_option maxHeartbeats 32000000 in
theorem topLocals_any {f B : Nat} {w : World} {D : Nat → Prop} {a : Option Addr} {c : Nat} {ss : List ByteArray} {x1 x2 : Option Addr} {y1 y2 : Nat} {t : Tr} (h : RdS B w (.slice a ss.length c) ss) (hB : B ≤ w.heap.size) (hsz : ∀ x ∈ ss, x.size ≤ 9223372036854775807) (hA : ArV (f + 1) D w (.slice x1 t.ns.length y1) (.slice x2 t.kids.length y2) t) (hD : ∀ g, D g → g < w.heap.size) :
    Calls Tryz.prog 7 #[.slice a ss.length c, .agg #[.slice x1 t.ns.length y1, .slice x2 t.kids.length y2]] w fun e w' => e = .returned (.bool true) ∧ Below w.heap.size w w' := by
 obtain ⟨ne, hne⟩ := tellsErr_ex
 have e1 := below_alloc w (.cells #[.slice x1 t.ns.length y1, .slice x2 t.kids.length y2] 29)
 have B1 := boxA_new w #[.slice x1 t.ns.length y1, .slice x2 t.kids.length y2] 29
 have hR1 := h.below e1 hB
 have HA : Hid (ArV (f + 1) D w (.slice x1 t.ns.length y1) (.slice x2 t.kids.length y2) t) := hA
 clear h hA
 go_enter Tryz.func7, Tryz.ntmps7
 go_wp2_with fail
 refine (fnMake_any hne hR1 (by simp; omega) hsz).mono ?_
 rintro e w2 ⟨hcase, k2⟩
 have s2 := k2.size
 rw [World.size_alloc] at s2
 have K2 : Below w.heap.size w w2 := e1.trans (k2.mono (by simp))
 have B2 := B1.below k2 (by simp)
 clear hR1 e1 B1 k2
 rcases hcase with ⟨n, _, rfl⟩ | ⟨hd, ls, ats, a1, c1, a2, c2, a3, c3, a4, c4, hmk, rfl, o1, o2, o3, o4⟩
 · have e3 := below_alloc w2 (.cells fn0 36)
   have B3 := boxA_new w2 fn0 36
   go_wp2_with fail
   refine (new_any _).mono ?_
   rintro e w3 ⟨rfl, hw3⟩
   have e4 := below_alloc (w2.alloc (.cells fn0 36)) (.cells #[.slice none 0 0, .map none, .slice none 0 0] 77)
   rw [← hw3] at e4
   have B4 := B3.below e4 (by simp)
   have x7 := B4.cell 7 rfl
   have HF : Hid (Below w.heap.size w w3) := K2.trans ((e3.mono K2.size).trans (e4.mono (by simp; omega)))
   clear hw3 e3 e4 B3 B4 K2 B2
   go_wp2
   go_ret
   exact ⟨rfl, HF.out⟩
 obtain ⟨hnm, hnames, hnot, hls32, hlb⟩ := make_locals hmk
 obtain ⟨hss, hat, hats⟩ := make_short hmk
 clear hmk
 obtain ⟨FV, hFV⟩ : ∃ FV, FV = fnV hd.nm hd.rs hd.lf hd.rt (.slice a1 hd.ls.length c1) (.slice a2 ls.length c2) (.slice a3 ats.length c3) (.slice a4 ss.length c4) false := ⟨_, rfl⟩
 have e3 := below_alloc w2 (.cells (fnV hd.nm hd.rs hd.lf hd.rt (.slice a1 hd.ls.length c1) (.slice a2 ls.length c2) (.slice a3 ats.length c3) (.slice a4 ss.length c4) false) 36)
 have B3 := boxA_new w2 (fnV hd.nm hd.rs hd.lf hd.rt (.slice a1 hd.ls.length c1) (.slice a2 ls.length c2) (.slice a3 ats.length c3) (.slice a4 ss.length c4) false) 36
 go_wp2_with fail
 refine (new_any _).mono ?_
 rintro e w3 ⟨rfl, hw3⟩
 rw [World.size_alloc]
 have e4 := below_alloc (w2.alloc (.cells (fnV hd.nm hd.rs hd.lf hd.rt (.slice a1 hd.ls.length c1) (.slice a2 ls.length c2) (.slice a3 ats.length c3) (.slice a4 ss.length c4) false) 36)) (.cells #[.slice none 0 0, .map none, .slice none 0 0] 77)
 have hT3 := tabIs_new f (w2.alloc (.cells (fnV hd.nm hd.rs hd.lf hd.rt (.slice a1 hd.ls.length c1) (.slice a2 ls.length c2) (.slice a3 ats.length c3) (.slice a4 ss.length c4) false) 36))
 have s3 : w3.heap.size = w2.heap.size + 1 + 1 := by rw [hw3]; simp
 rw [← hw3, World.size_alloc] at e4 hT3
 have K23 : Below w2.heap.size w2 w3 := e3.trans (e4.mono (by omega))
 have B3' := B3.below e4 (by omega)
 have A3 := B2.below K23 B2.lt
 obtain ⟨tb, htb⟩ : ∃ tb, w2.heap.size + 1 = tb := ⟨_, rfl⟩
 rw [htb] at hT3 s3 ⊢
 obtain ⟨F0, hF0⟩ : ∃ F0, w2.heap.size = F0 := ⟨_, rfl⟩
 rw [hF0] at B3' ⊢
 clear hw3 e3 e4 B3 B2
 have r1 := (RdS.of_row o1).below K23 (Nat.le_refl _)
 have r2 := (RdS.of_row o2).below K23 (Nat.le_refl _)
 obtain ⟨x0, x1', x2', x3, x4, x5, x6, x7, x8⟩ := cells9 B3'
 obtain ⟨fs, hfs⟩ : ∃ fs, fs = ([hd.rs, hd.lf, hd.rt] ++ hd.ls ++ ls).filter full := ⟨_, rfl⟩
 rw [← hfs] at hnames hnot
 have hfl : fs.length ≤ 290 := by
  rw [hfs]
  refine Nat.le_trans (List.length_filter_le _ _) ?_
  simp
  omega
 go_wp2_with fail
 refine (locals_any (fs := fs) r1 r2 (by omega) (by omega) hfs).mono ?_
 rintro e w4 ⟨la, lc, rfl, oL, k4⟩
 have s4 := k4.size
 have A4 := A3.below k4 (by omega)
 have F4 := B3'.below k4 (by omega)
 have HS4 : Hid (Stt f w4 tb (fun g => g = tb) w4 [fb0]) := ⟨hT3.below k4, KpM.refl _ _, NewM.refl _ _⟩
 have K24 : Below w2.heap.size w2 w4 := K23.trans (k4.mono (by omega))
 have HK4 : Hid (Below w.heap.size w w4) := K2.trans (K24.mono K2.size)
 have HFIN : Hid (∀ M W T, Stt f w4 tb M W T → Below w.heap.size w W) := fun M W T hS => HK4.out.trans (hS.kp.below (fun g hg => by omega) (by omega))
 have HRL : Hid (RdT (DT w4 tb) w4 (.slice la fs.length lc) fs) := (RdT.of_own oL).imp (fun g hg => ⟨hg.2, by have := hg.1; omega⟩) (fun _ _ => rfl)
 have HA4 : Hid (ArV (f + 1) (DT w4 tb) w4 (.slice x1 t.ns.length y1) (.slice x2 t.kids.length y2) t) := ArV.imp (fun g hg => ⟨by have := hD g hg; omega, by have := hD g hg; omega⟩) (fun g hg => HK4.out.block g (hD g hg)) _ _ _ _ _ (Nat.le_refl _) HA.out
 have HL4 : Hid (Lists4 (DT w4 tb) w4 a1 a2 a3 a4 c1 c2 c3 c4 hd.ls ls ats ss) := by
  have q : ∀ g, Fr w.heap.size w2.heap.size g → DT w4 tb g := fun g hg => ⟨by have := hg.2; omega, by have := hg.2; omega⟩
  have q' : Agree (Fr w.heap.size w2.heap.size) w2 w4 := fun g hg => K24.block g hg.2
  exact ⟨(RdT.of_own (row_monoS o1 (by simp))).imp q q', (RdT.of_own (row_monoS o2 (by simp))).imp q q', (RdN.of_own (row_monoS o3 (by simp)) (fun x hx => by have := hats x hx; omega)).imp q q', (RdT.of_own (row_monoS o4 (by simp))).imp q q'⟩
 have HNM : Hid (nameF hd.nm = true ∧ (∀ x ∈ fs, nameF x = true) ∧ hd.nm ∉ fs) := ⟨hnm, hnames, hnot⟩
 have hA0 : ¬ w.heap.size = tb := by omega
 have hF0' : ¬ F0 = tb := by omega
 have HSH : Hid (shortB (fnB hd.nm hd.rs hd.lf hd.rt hd.ls ls ats ss false)) := ⟨by show hd.ls.length ≤ _; omega, by show ls.length ≤ _; omega, by show ats.length ≤ _; omega, by show ss.length ≤ _; omega⟩
 have HNZ : Hid (hd.nm.size ≤ 9223372036854775807 ∧ ∀ x ∈ fs, x.size ≤ 9223372036854775807) := ⟨by have := name_size hnm; omega, fun x hx => by have := name_size (hnames x hx); omega⟩
 clear hT3 oL k4 K24 K23 r1 r2 o1 o2 o3 o4 hnm hnames hnot hats hss hat hls32 hlb hfs A3 B3' x0 x1' x2' x3 x4 x5 x6 x7 x8 K2 hFV HA hsz hD
 obtain ⟨hlc1, hlc2, hlp⟩ := HRL.out.ptrT
 clear hlp
 go_wp2_with fail
 go_loopw [10] (fun iv wr => ∃ i : Nat, iv = .int .i64 i ∧ i ≤ fs.length ∧ ∃ M E, Hid (Stt f w4 tb M wr [⟨[], E⟩]) ∧ Hid (Vars fs E i)) (fun iv _ => fs.length - (intOf iv).toNat)
 case atStart => exact ⟨0, rfl, Nat.zero_le _, _, [], HS4, vars_nil fs⟩
 case round =>
  obtain ⟨i, rfl, hil, M, E, HS, HV⟩ := hrel
  by_cases hlt : i < fs.length
  · obtain ⟨_, _, hp⟩ := (HRL.out.imp (fun _ h => h) HS.out.agree).ptrT
    obtain ⟨g, o, rfl, hc⟩ := hp (by omega)
    have q := hc i hlt
    have i1 : (i : Int) < (fs.length : Int) := by omega
    have AW := HS.out.box A4 hA0
    have z0 := AW.cell 0 rfl
    have z1 := AW.cell 1 rfl
    have HIN : Hid (fs.getD i noT ∈ fs) := getD_memN hlt
    have HNX : Hid (∃ E', setVarT [⟨[], E⟩] (fs.getD i noT) t = [⟨[], E'⟩] ∧ Vars fs E' (i + 1)) := setVar_one t HV.out HIN.out
    have HSD : Hid (Stt f w4 tb M wr.drew [⟨[], E⟩]) := HS.out.below (Below.refl _ _).drew
    have HXS : Hid ((fs.getD i noT).size ≤ 9223372036854775807) := HNZ.out.2 _ HIN.out
    have HEL : Hid (cntF [⟨[], E⟩] ≤ 1000000) := by have := HV.out.len; show E.length ≤ 1000000; omega
    generalize fs.getD i noT = x at *
    clear hc HV HS HIN
    go_wp2_with fail
    go_region_with (refine (setVar_any (t := t) (D := DT w4 tb) x HXS.out HSD.out.tab HEL.out HSD.out.dm (HA4.out.agree HSD.out.agree)).mono ?_; rintro e w5 hR; have HR5 : Hid (∃ M', Stt f w4 tb M' w5 (setVarT [⟨[], E⟩] x t)) := HSD.out.step hR; obtain ⟨rfl, _⟩ := hR; clear HSD)
    all_goals
     obtain ⟨E', hE', hV'⟩ := HNX.out
     obtain ⟨M', hS'⟩ := HR5.out
     rw [hE'] at hS'
     have HV' : Hid (Vars fs E' (i + 1)) := hV'
     have HS' : Hid (Stt f w4 tb M' w5 [⟨[], E'⟩]) := hS'
     clear hV' hS' hE' HNX HR5
     go_wp2_with fail
     go_roundw
     case rel => exact ⟨i + 1, by go_num, by omega, M', E', HS', HV'⟩
     case measure => simp [intOf]; omega
  obtain rfl : i = fs.length := by omega
  have i1 : ¬ (fs.length : Int) < (fs.length : Int) := by omega
  obtain ⟨p25, p0⟩ := push_one (E := E) HNM.out.2.1
  have HRW : Hid (RdS wr.heap.size wr (.slice la fs.length lc) fs) := (HRL.out.imp (fun _ h => h) HS.out.agree).rd (fun g hg => by have := hg.1; have := HS.out.kp.size; omega)
  go_wp2_with fail
  refine (tPush_any HS.out.tab HRW.out (Nat.le_refl _) HNZ.out.2).mono ?_
  rintro e w5 hR
  have HR5 : Hid (∃ M', Stt f w4 tb M' w5 (pushT [⟨[], E⟩] fs)) := HS.out.step hR
  obtain ⟨rfl, _⟩ := hR
  by_cases h64 : 64 < fs.length
  · rw [p25 h64]
    have HF : Hid (Below w.heap.size w w5) := by obtain ⟨M', h5⟩ := HR5.out; exact HFIN.out _ _ _ h5
    clear p25 p0 HR5 HS HV HRW h64
    go_wp2
    go_ret
    exact ⟨rfl, HF.out⟩
  obtain ⟨pe, pt⟩ := p0 h64
  rw [pe]
  obtain ⟨M5, hS5⟩ := HR5.out
  rw [pt] at hS5
  have HS5 : Hid (Stt f w4 tb M5 w5 [⟨[], E⟩, ⟨dedF [] fs, []⟩]) := hS5
  clear p25 p0 pe pt hS5 HR5 HS HRW
  go_wp2_with fail
  go_loopw [12] (fun iv wr => ∃ i : Nat, iv = .int .i64 i ∧ i ≤ fs.length ∧ Hid (Stt f w4 tb M5 wr [⟨[], E⟩, ⟨dedF [] fs, []⟩])) (fun iv _ => fs.length - (intOf iv).toNat)
  case atStart => exact ⟨0, rfl, Nat.zero_le _, HS5⟩
  case round =>
   obtain ⟨i, rfl, hil2, HS⟩ := hrel
   by_cases hlt : i < fs.length
   · obtain ⟨_, _, hp⟩ := (HRL.out.imp (fun _ h => h) HS.out.agree).ptrT
     obtain ⟨g, o, rfl, hc⟩ := hp (by omega)
     have q := hc i hlt
     have i1 : (i : Int) < (fs.length : Int) := by omega
     have HIN : Hid (fs.getD i noT ∈ fs) := getD_memN hlt
     generalize fs.getD i noT = x at *
     clear hc
     go_wp2_with fail
     refine (tClass_any x HS.out.tab).mono ?_
     rintro e w6 ⟨rfl, k6⟩
     rw [cur_in HIN.out]
     have HS6 : Hid (Stt f w4 tb M5 w6 [⟨[], E⟩, ⟨dedF [] fs, []⟩]) := HS.out.below k6
     have hz : (getB x []).k = 0 := rfl
     rw [hz]
     clear hz k6 HS HIN q
     go_wp2_with fail
     go_roundw
     case rel => exact ⟨i + 1, by go_num, by omega, HS6⟩
     case measure => simp [intOf]; omega
   obtain rfl : i = fs.length := by omega
   have i1 : ¬ (fs.length : Int) < (fs.length : Int) := by omega
   obtain ⟨x0, z1, z2, x3, x4, x5, x6, x7, x8⟩ := cells9 (HS.out.box F4 hF0')
   go_wp2_with fail
   refine (setFn_any (s2 := hd.rs) (s3 := hd.lf) (s4 := hd.rt) (br := false) HNZ.out.1 HS.out.tab (by show E.length + (0 + 0) ≤ 1000000; have := HV.out.len; omega) (HL4.out.imp HS.out.dm HS.out.agree) HSH.out).mono ?_
   rintro e w7 hR
   have HR7 : Hid (∃ M', Stt f w4 tb M' w7 (setFnT [⟨[], E⟩, ⟨dedF [] fs, []⟩] hd.nm (fnB hd.nm hd.rs hd.lf hd.rt hd.ls ls ats ss false))) := HS.out.step hR
   obtain ⟨rfl, _⟩ := hR
   obtain ⟨M7, hS7⟩ := HR7.out
   rw [setFn_two HNM.out.1 rfl HV.out HNM.out.2.2 (by omega)] at hS7
   have HS7 : Hid (Stt f w4 tb M7 w7 [⟨[], putB hd.nm (cpB (fnB hd.nm hd.rs hd.lf hd.rt hd.ls ls ats ss false)) E⟩, ⟨dedF [] fs, []⟩]) := hS7
   clear hS7 HR7 HS x0 z1 z2 x3 x4 x5 x6 x7 x8
   obtain ⟨P, hP⟩ : ∃ P, P = putB hd.nm (cpB (fnB hd.nm hd.rs hd.lf hd.rt hd.ls ls ats ss false)) E := ⟨_, rfl⟩
   have HGV : Hid (∀ x ∈ fs, hasB x P = true → (getB x P).k = 2) := fun x hx hh => by rw [hP] at hh ⊢; exact got_var HV.out hx HNM.out.2.2 hh
   have HG3 : Hid ((getB hd.nm P).k = 3) := by unfold Hid; rw [hP, (put_same _ _ _).1]; rfl
   rw [← hP] at HS7
   clear hP HV
   go_wp2_with fail
   refine (tPop_any HS7.out.tab (by show 2 ≤ 1000000; omega)).mono ?_
   rintro e w8 hR
   have HR8 : Hid (∃ M', Stt f w4 tb M' w8 (popT [⟨[], P⟩, ⟨dedF [] fs, []⟩])) := HS7.out.step hR
   obtain ⟨rfl, _⟩ := hR
   have hpe : popE [⟨[], P⟩, ⟨dedF [] fs, []⟩] = 0 := rfl
   rw [hpe]
   obtain ⟨M8, hS8⟩ := HR8.out
   have HS8 : Hid (Stt f w4 tb M8 w8 [⟨[], P⟩]) := hS8
   clear hpe hS8 HR8 HS7
   go_wp2_with fail
   go_loopw [13] (fun iv wr => ∃ i : Nat, iv = .int .i64 i ∧ i ≤ fs.length ∧ Hid (Stt f w4 tb M8 wr [⟨[], P⟩])) (fun iv _ => fs.length - (intOf iv).toNat)
   case atStart => exact ⟨0, rfl, Nat.zero_le _, HS8⟩
   case round =>
    obtain ⟨i, rfl, hil3, HS⟩ := hrel
    by_cases hlt : i < fs.length
    · obtain ⟨_, _, hp⟩ := (HRL.out.imp (fun _ h => h) HS.out.agree).ptrT
      obtain ⟨g, o, rfl, hc⟩ := hp (by omega)
      have q := hc i hlt
      have i1 : (i : Int) < (fs.length : Int) := by omega
      have HIN : Hid (fs.getD i noT ∈ fs) := getD_memN hlt
      generalize fs.getD i noT = x at *
      clear hc
      go_wp2_with fail
      refine (tGet_any x HS.out.tab).mono ?_
      rintro e w9 ⟨y, rfl, hY, k9⟩
      rw [cur_one] at hY ⊢
      have e9 := below_alloc w9 (.cells y.cells 49)
      have B9 := boxA_new w9 y.cells 49
      have y0 := B9.cell 0 rfl
      have HS9 : Hid (Stt f w4 tb M8 (w9.alloc (.cells y.cells 49)) [⟨[], P⟩]) := (HS.out.below k9).below e9
      have HYK : Hid (y.k = (getB x P).k) := hY.k_eq
      clear hY k9 e9 HS q B9
      cases hh : hasB x P with
      | true =>
       have hk : (y.k == 2) = true := by rw [HYK.out, HGV.out x HIN.out hh]; rfl
       clear hh HYK HIN
       go_wp2_with fail
       go_roundw
       case rel => exact ⟨i + 1, by go_num, by omega, HS9⟩
       case measure => simp [intOf]; omega
      | false =>
       clear hh HYK HIN
       go_wp2_with fail
       go_roundw
       case rel => exact ⟨i + 1, by go_num, by omega, HS9⟩
       case measure => simp [intOf]; omega
    obtain rfl : i = fs.length := by omega
    have i1 : ¬ (fs.length : Int) < (fs.length : Int) := by omega
    have z0 := (HS.out.box F4 hF0').cell 0 rfl
    go_wp2_with fail
    refine (tClass_any hd.nm HS.out.tab).mono ?_
    rintro e w9 ⟨rfl, k9⟩
    rw [cur_one, HG3.out]
    have HS9 : Hid (Stt f w4 tb M8 w9 [⟨[], P⟩]) := HS.out.below k9
    clear HS k9 z0
    go_wp2_with fail
    refine (tDepth_any HS9.out.tab).mono ?_
    rintro e w10 ⟨rfl, hw⟩
    obtain rfl := hw.symm
    have hl1 : ((([⟨[], P⟩] : List FrB).length : Nat) : Int) - 1 = 0 := rfl
    rw [hl1]
    have HF : Hid (Below w.heap.size w w9) := HFIN.out _ _ _ HS9.out
    clear hl1 HS9
    go_wp2
    go_ret
    exact ⟨rfl, HF.out⟩
end Go.Proofs.YtimfnalpmmkndaaGreatDoor
