/- The document's Sign, OfInt, IsInt. -/
import Derived.Test.YtilbfkabfgnhpaaGreatK8
set_option maxRecDepth 100000
set_option maxHeartbeats 3200000
set_option linter.unusedVariables false
set_option linter.unusedSimpArgs false
namespace Go.Proofs.YtilbfkabfgnhpaaGreat
open Go.RowKit
theorem refOf_num (n:Int) (h0:0≤n) (h1:n<18446744073709551616) (w:World):Calls Tryz.prog 63 #[.int .u64 n] w fun e w'=>∃ ns,can ns∧Hid (val ns=n)∧ns.length≤2∧Makes w e w' ns:=by
 refine (refOf_any n h0 h1 w).mono ?_;intro e w' h;have hc:=of_can n h0 h1;exact ⟨_,hc.1,hc.2.1,hc.2.2,h⟩
section
variable {w:World} {bx:Bool} {a1 a2:Option Addr} {c1 c2:Nat} {xn xd:List Int}
theorem refSign_rat (h1:Rd w.heap.size w (.slice a1 xn.length c1) xn) (h2:Rd w.heap.size w (.slice a2 xd.length c2) xd) :
    Calls Tryz.prog 17 #[.agg #[.bool bx,.slice a1 xn.length c1,.slice a2 xd.length c2]] w fun e w'=>Below w.heap.size w w'∧Signs (RightP bx xn xd) bx xn e:=by
 have X:=nvar_new (b:=bx) h1 h2;have b0:=below_alloc w (.cells #[.bool bx,.slice a1 xn.length c1,.slice a2 xd.length c2] 24);obtain ⟨k0,k1,k2⟩:=X.cells;go_enter Tryz.func17,Tryz.ntmps17
 go_wp2_with fail
 clear k0 k1 k2;generalize hA:w.alloc (.cells #[.bool bx,.slice a1 xn.length c1,.slice a2 xd.length c2] 24)=v at *;clear hA;refine (refRight_rat X.rn X.rd).mono ?_;rintro e wa ⟨⟨r,rfl,hr⟩,ba⟩;replace X:=X.below ba;have g1:Below w.heap.size w wa:=b0.trans (ba.mono b0.size);obtain ⟨k0,k1,k2⟩:=X.cells
 cases r with
 | false=>
  have HP:Hid (¬ RightP bx xn xd):=fun h=>by have:=hr.2 h;cases this
  clear hr;go_wp2
  go_ret
  exact ⟨g1,0,rfl,fun _=>rfl,fun h=>absurd h HP.out⟩
 | true=>
  have HP:Hid (RightP bx xn xd):=hr.1 rfl;clear hr;by_cases h0:0<xn.length
  · have hb:((xn.length:Int)==0)=false:=by rw [beq_eq_false_iff_ne];omega
    have HV:Hid (0<val xn):=by
     have h5:=can_low HP.out.2.2.1 h0;have h6:=pw_pos (xn.length - 1);unfold Hid;omega
    cases bx with
    | false=>
     go_wp2
     go_ret
     exact ⟨g1,1,rfl,fun h=>absurd HP.out h,fun _=>(cmpI_gt (by have:=HV.out;simpa [sg] using this)).symm⟩
    | true=>
     go_wp2
     go_ret
     exact ⟨g1,-1,rfl,fun h=>absurd HP.out h,fun _=>(cmpI_lt (by have:=HV.out;simp [sg];omega)).symm⟩
  · have hb:((xn.length:Int)==0)=true:=by rw [beq_iff_eq];omega
    have HV:Hid (val xn=0):=(can_zero HP.out.2.2.1).1 (by omega);go_wp2
    go_ret
    exact ⟨g1,0,rfl,fun h=>absurd HP.out h,fun _=>(cmpI_eq (by rw [HV.out,sg_zero])).symm⟩
end
theorem refOfInt_any (k:Int) (h0:-9223372036854775808≤k) (h1:k<9223372036854775808) (w:World):Calls Tryz.prog 16 #[.int .i64 k] w fun e w'=>WholeNum w k e w':=by
 have R:=rvar_new w;have g:=below_alloc w (.cells #[.bool false,.slice none 0 0,.slice none 0 0] 24);go_enter Tryz.func16,Tryz.ntmps16;by_cases hk:k<0
 · have hkb:decide (k<0)=true:=decide_eq_true hk
   have hw:IntKind.u64.wrap (-IntKind.u64.wrap k) = -k:=by rw [IntKind.wrap_u64,IntKind.wrap_u64];omega
   go_wp2_with fail
   generalize hA:w.alloc (.cells #[.bool false,.slice none 0 0,.slice none 0 0] 24)=v at *;clear hA;refine (refOf_num (-k) (by omega) (by omega) _).mono ?_;rintro e wa ⟨ns,cn,vn,ln,x1,y1,rfl,o1,ka⟩
   go_wp2_with fail
   refine (refOne_any _).mono ?_;rintro e wb ⟨ds,x2,y2,HD,rfl,o2,kb⟩;have t:Below v.heap.size v wb:=ka.trans (kb.mono ka.size);have Rb:=R.below t;have q0:=Rb.box.c0;have q1:=Rb.box.c1;have q2:=Rb.box.c2;have p0:=Rb.box.f0;have p1:=Rb.box.f1;have p2:=Rb.box.f2;go_wp2
   have hR3:=Rb.box.set (.bool true) (.slice x1 ns.length y1) (.slice x2 ds.length y2);have r0:=hR3.c0;have r1:=hR3.c1;have r2:=hR3.c2;refine bodyPost_ret (v:=.agg #[.bool true,.slice x1 ns.length y1,.slice x2 ds.length y2]) (by simp [results,Tryz.results16,go_sem,r0,r1,r2]) rfl ?_;exact ⟨Below.set3 (g.trans (t.mono g.size)) (Nat.le_refl _) _ _ _,true,ns,ds,x1,y1,x2,y2,⟨hkb.symm,cn,by rw [vn.out,if_pos hk],ln,HD.out⟩,rfl,(Own.set3 (o1.below kb (Nat.le_refl _)) R.lt _ _ _).mono g.size,(Own.set3 (o2.mono ka.size) R.lt _ _ _).mono g.size⟩
 · have hkb:decide (k<0)=false:=decide_eq_false hk
   go_wp2_with fail
   generalize hA:w.alloc (.cells #[.bool false,.slice none 0 0,.slice none 0 0] 24)=v at *;clear hA;refine (refOf_num k (by omega) (by omega) _).mono ?_;rintro e wa ⟨ns,cn,vn,ln,x1,y1,rfl,o1,ka⟩
   go_wp2_with fail
   refine (refOne_any _).mono ?_;rintro e wb ⟨ds,x2,y2,HD,rfl,o2,kb⟩;have t:Below v.heap.size v wb:=ka.trans (kb.mono ka.size);have Rb:=R.below t;have q0:=Rb.box.c0;have q1:=Rb.box.c1;have q2:=Rb.box.c2;have p0:=Rb.box.f0;have p1:=Rb.box.f1;have p2:=Rb.box.f2;go_wp2
   have hR3:=Rb.box.set (.bool false) (.slice x1 ns.length y1) (.slice x2 ds.length y2);have r0:=hR3.c0;have r1:=hR3.c1;have r2:=hR3.c2;refine bodyPost_ret (v:=.agg #[.bool false,.slice x1 ns.length y1,.slice x2 ds.length y2]) (by simp [results,Tryz.results16,go_sem,r0,r1,r2]) rfl ?_;exact ⟨Below.set3 (g.trans (t.mono g.size)) (Nat.le_refl _) _ _ _,false,ns,ds,x1,y1,x2,y2,⟨hkb.symm,cn,by rw [vn.out,if_neg (by omega)],ln,HD.out⟩,rfl,(Own.set3 (o1.below kb (Nat.le_refl _)) R.lt _ _ _).mono g.size,(Own.set3 (o2.mono ka.size) R.lt _ _ _).mono g.size⟩
theorem one_cmp {ds os:List Int} (ho:os=[1]) (cd:can ds):cmpI (val ds) (val os)=0↔ds=[1]:=by
 subst ho;rw [cmpI_zero',one_val];constructor
 · intro h
   exact can_inj cd can_one (by rw [h,one_val])
 · rintro rfl
   exact one_val
section
variable {w:World} {b:Bool} {a1 a2:Option Addr} {c1 c2:Nat} {ns ds:List Int}
theorem refIsInt_rat (h1:Rd w.heap.size w (.slice a1 ns.length c1) ns) (h2:Rd w.heap.size w (.slice a2 ds.length c2) ds) :
    Calls Tryz.prog 109 #[.agg #[.bool b,.slice a1 ns.length c1,.slice a2 ds.length c2]] w fun e w'=>TellsP (IsWhole b ns ds) e∧Below w.heap.size w w':=by
 have X:=nvar_new (b:=b) h1 h2;have g:=below_alloc w (.cells #[.bool b,.slice a1 ns.length c1,.slice a2 ds.length c2] 24);obtain ⟨x0,x1,x2⟩:=X.cells;go_enter Tryz.func109,Tryz.ntmps109
 go_wp2_with fail
 clear x0 x1 x2;generalize hA:w.alloc (.cells #[.bool b,.slice a1 ns.length c1,.slice a2 ds.length c2] 24)=v at *;clear hA;obtain ⟨x0,x1,x2⟩:=X.cells;have hcells:∀ {w':World},Below v.heap.size v w'→w'.cell? ⟨w.heap.size,0,none⟩=some (.bool b)∧w'.cell? ⟨w.heap.size,1,none⟩=some (.slice a1 ns.length c1)∧w'.cell? ⟨w.heap.size,2,none⟩=some (.slice a2 ds.length c2):=fun hb=>(X.below hb).cells;by_cases hP:RightP b ns ds
 · have HP:Hid (RightP b ns ds):=hP
   clear hP;have l2:ds.length*4≤140737488355328:=by have:=HP.out.2.1;omega
   go_region_held3 (fun w'=>w'.cell? ⟨w.heap.size,0,none⟩=some (.bool b)∧w'.cell? ⟨w.heap.size,1,none⟩=some (.slice a1 ns.length c1)∧w'.cell? ⟨w.heap.size,2,none⟩=some (.slice a2 ds.length c2))
    (first | (go_keep;done) | exact tw | exact tw2 | exact tw3)
    (first
     | (go_at_call 13;refine (refRight_rat (w:=v.drew) X.rn X.rd).mono ?_;rintro e wa ⟨⟨r,rfl,hr⟩,ka'⟩;obtain rfl:r=true:=hr.2 HP.out;have ka:Below v.heap.size v wa:=below_undrew (w:=v) (B:=v.heap.size) ka';have tw:=hcells ka;clear hr)
     | (have j:=tw;go_at_call 61;refine (refOne_any _).mono ?_;rintro e wb ⟨os,x5,y5,HO,rfl,o5,kb⟩;have tb:Below v.heap.size v wb:=ka.trans (kb.mono ka.size);have tw2:=hcells tb;have lo:os.length*4≤140737488355328:=(by rw [HO.out];decide))
     | (have j:=tw2;go_at_call 59;refine (refCompare_rd (X.below tb).rd o5.rd (Nat.le_refl _) l2 lo).mono ?_;rintro e wc ⟨rfl,kc⟩;have tc:Below v.heap.size v wc:=tb.trans (kc.mono tb.size);have tw3:=hcells tc;have hq:Hid (cmpI (val ds) (val os)=0↔ds=[1]):=(one_cmp HO.out HP.out.2.2.2.1)))
   by_cases hone:ds=[1]
   · have HD:Hid (ds=[1]):=hone
     have hqb:(cmpI (val ds) (val os)==0)=true:=by rw [beq_iff_eq];exact hq.out.2 hone
     clear hone;go_wp2
     go_ret
     exact ⟨⟨_,rfl,⟨fun _=>⟨HP.out,HD.out⟩,fun _=>hqb⟩⟩,g.trans (tc.mono g.size)⟩
   · have HD:Hid (¬ ds=[1]):=hone
     have hqb:(cmpI (val ds) (val os)==0)=false:=by rw [beq_eq_false_iff_ne];exact fun h=>hone (hq.out.1 h)
     clear hone;go_wp2
     go_ret
     exact ⟨⟨_,rfl,⟨fun h=>absurd (h.symm.trans hqb) (by decide),fun h=>absurd h.2 HD.out⟩⟩,g.trans (tc.mono g.size)⟩
 · have HP:Hid (¬ RightP b ns ds):=hP
   clear hP
   first
   | go_region_with (first
       | (go_at_call 13;refine (refRight_rat (w:=v.drew) X.rn X.rd).mono ?_;rintro e wa ⟨⟨r,rfl,hr⟩,ka'⟩;have hrf:r=false:=(by cases r with | false=>rfl | true=>exact absurd (hr.1 rfl) HP.out);subst hrf;have ka:Below v.heap.size v wa:=below_undrew (w:=v) (B:=v.heap.size) ka';have tw:=hcells ka;clear hr))
   | fail
   all_goals
    go_wp2
    go_ret
    exact ⟨TellsP.no (fun h=>HP.out h.1),g.trans (ka.mono g.size)⟩
end
end Go.Proofs.YtilbfkabfgnhpaaGreat
