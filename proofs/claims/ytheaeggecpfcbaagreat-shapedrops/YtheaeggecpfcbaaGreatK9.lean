/- array.measuredItem at a number. -/
import Derived.Test.YtheaeggecpfcbaaGreatK8
set_option maxRecDepth 100000
set_option maxHeartbeats 6400000
set_option linter.unusedVariables false
set_option linter.unusedSimpArgs false
namespace Go.Proofs.YtheaeggecpfcbaaGreat
open Go.RowKit
section
variable {D:Nat→Prop} {f:Nat} {w:World} {a1 a2 a3:Option Addr} {c1 c2 c3:Nat} {t:Tr}
theorem measuredItem_k1 {L:Nat} (e1:t.k=1) (h:ItV (ArV f D w) D w a1 c1 a2 c2 a3 c3 t) (hD:∀ g,D g→g<w.heap.size) :
    Calls Tryz.prog 41 #[.agg #[.int .u8 t.k,.bool t.b,.slice a1 t.ns.length c1,.slice a2 t.ds.length c2,.int .i32 t.c,.slice a3 t.kids.length c3],.int .i64 L] w fun e w'=>e=mEnd (measI (measF L) t)∧Below w.heap.size w w':=by
 have H:Hid (ItV (ArV f D w) D w a1 c1 a2 c2 a3 c3 t):=h;have HD:Hid (∀ g,D g→g<w.heap.size):=hD;have bd3:=h.bx.bounds;have hr1:=h.rn.rd hD;have hr2:=h.rd.rd hD;clear h hD;have X0:=boxA_new w #[.int .u8 t.k,.bool t.b,.slice a1 t.ns.length c1,.slice a2 t.ds.length c2,.int .i32 t.c,.slice a3 t.kids.length c3] 68;have k0:=below_alloc w (.cells #[.int .u8 t.k,.bool t.b,.slice a1 t.ns.length c1,.slice a2 t.ds.length c2,.int .i32 t.c,.slice a3 t.kids.length c3] 68);have k1:=below_alloc (w.alloc (.cells #[.int .u8 t.k,.bool t.b,.slice a1 t.ns.length c1,.slice a2 t.ds.length c2,.int .i32 t.c,.slice a3 t.kids.length c3] 68)) (.cells #[.int .i64 0,.int .i64 0] 55);have R:=boxA_new (w.alloc (.cells #[.int .u8 t.k,.bool t.b,.slice a1 t.ns.length c1,.slice a2 t.ds.length c2,.int .i32 t.c,.slice a3 t.kids.length c3] 68)) #[.int .i64 0,.int .i64 0] 55;rw [World.size_alloc] at R;have X:=X0.below k1 (by simp);have g:Below w.heap.size w _:=k0.trans (k1.mono (by simp));have sv:((w.alloc (.cells #[.int .u8 t.k,.bool t.b,.slice a1 t.ns.length c1,.slice a2 t.ds.length c2,.int .i32 t.c,.slice a3 t.kids.length c3] 68)).alloc (.cells #[.int .i64 0,.int .i64 0] 55)).heap.size=w.heap.size+1+1:=by simp
 replace hr1:=hr1.below g;replace hr2:=hr2.below g;have X0':=X.cell 0 rfl;have X1:=X.cell 1 rfl;have X2:=X.cell 2 rfl;have X3:=X.cell 3 rfl;have X4:=X.cell 4 rfl;have X5:=X.cell 5 rfl;have R0:=R.cell 0 rfl;have R1:=R.cell 1 rfl;have Rf0:=R.frozen 0;have Rf1:=R.frozen 1;go_enter Tryz.func41,Tryz.ntmps41;have d1:(t.k==1)=true:=by rw [beq_iff_eq];exact e1
 have H1:Hid (t.k=1):=e1;clear e1
 go_upto_region 3 with fail
 generalize hA:(w.alloc (.cells #[.int .u8 t.k,.bool t.b,.slice a1 t.ns.length c1,.slice a2 t.ds.length c2,.int .i32 t.c,.slice a3 t.kids.length c3] 68)).alloc (.cells #[.int .i64 0,.int .i64 0] 55)=v at *;clear hA k0 k1 X0;have hcells:∀ {w':World},Below v.heap.size v w'→w'.cell? ⟨w.heap.size,1,none⟩=some (.bool t.b)∧w'.cell? ⟨w.heap.size,2,none⟩=some (.slice a1 t.ns.length c1)∧w'.cell? ⟨w.heap.size,3,none⟩=some (.slice a2 t.ds.length c2)∧w'.cell? ⟨w.heap.size,4,none⟩=some (.int .i32 t.c)∧w'.cell? ⟨w.heap.size,5,none⟩=some (.slice a3 t.kids.length c3):=fun hb=>by
  have Z:=X.below hb (by omega);exact ⟨Z.cell 1 rfl,Z.cell 2 rfl,Z.cell 3 rfl,Z.cell 4 rfl,Z.cell 5 rfl⟩
 have d0:Below v.heap.size v v.drew:=⟨rfl,rfl,rfl,Nat.le_refl _,fun _ _=>rfl⟩;have h1':Rd v.drew.heap.size v.drew (.slice a1 t.ns.length c1) t.ns:=hr1.mono (by simp;omega);have h2':Rd v.drew.heap.size v.drew (.slice a2 t.ds.length c2) t.ds:=hr2.mono (by simp;omega);by_cases hR:RightP t.b t.ns t.ds
 · have HRP:Hid (RightP t.b t.ns t.ds):=hR
   clear hR;by_cases hc:t.c=0
   · have dc:(t.c==0)=true:=by rw [beq_iff_eq];exact hc
     by_cases hk:t.kids.length=0
     · have dk:((t.kids.length:Int)==0)=true:=by rw [beq_iff_eq];omega
       have HE:Hid (measI (measF L) t=some (0,0)):=measI_num H1.out ⟨HRP.out,hc,hk⟩;clear hc hk
       first | go_region_with (go_at_call 75;refine (right_rat h1' h2' (Nat.le_refl _)).mono ?_;rintro e wa ⟨⟨r,rfl,hr⟩,ka'⟩;obtain rfl:r=true:=hr.2 HRP.out;clear hr;have ka:Below v.heap.size v wa:=d0.trans (ka'.mono d0.size);obtain ⟨tw1,tw2,tw3,tw4,tw5⟩:=hcells ka;have Rc:=R.below ka (by omega);have q0:=Rc.cell 0 rfl;have q1:=Rc.cell 1 rfl;have p0:=Rc.frozen 0;have p1:=Rc.frozen 1) | fail
       all_goals
        go_wp2
        have Rd2:=Rc.set2 (.int .i64 0) (.int .i64 0);have r0:=Rd2.cell 0 rfl;have r1:=Rd2.cell 1 rfl;refine bodyPost_ret (v:=.tuple #[.agg #[.int .i64 0,.int .i64 0],.bool true]) (by simp [results,Tryz.results41,go_sem,r0,r1]) rfl ?_;exact ⟨by rw [HE.out];rfl,Below.set2 (g.trans (ka.mono (by omega))) (by omega) _ _⟩
     · have dk:((t.kids.length:Int)==0)=false:=by rw [beq_eq_false_iff_ne];omega
       have HE:Hid (measI (measF L) t=none):=measI_num_no H1.out (fun h=>hk h.2.2);clear hc hk
       first | go_region_with (go_at_call 75;refine (right_rat h1' h2' (Nat.le_refl _)).mono ?_;rintro e wa ⟨⟨r,rfl,hr⟩,ka'⟩;obtain rfl:r=true:=hr.2 HRP.out;clear hr;have ka:Below v.heap.size v wa:=d0.trans (ka'.mono d0.size);obtain ⟨tw1,tw2,tw3,tw4,tw5⟩:=hcells ka;have Rc:=R.below ka (by omega);have q0:=Rc.cell 0 rfl;have q1:=Rc.cell 1 rfl;have p0:=Rc.frozen 0;have p1:=Rc.frozen 1) | fail
       all_goals
        go_wp2
        have Rd2:=Rc.set2 (.int .i64 0) (.int .i64 0);have r0:=Rd2.cell 0 rfl;have r1:=Rd2.cell 1 rfl;refine bodyPost_ret (v:=.tuple #[.agg #[.int .i64 0,.int .i64 0],.bool false]) (by simp [results,Tryz.results41,go_sem,r0,r1]) rfl ?_;exact ⟨by rw [HE.out];rfl,Below.set2 (g.trans (ka.mono (by omega))) (by omega) _ _⟩
   · have dc:(t.c==0)=false:=by rw [beq_eq_false_iff_ne];exact hc
     have HE:Hid (measI (measF L) t=none):=measI_num_no H1.out (fun h=>hc h.2.1);clear hc
     first | go_region_with (go_at_call 75;refine (right_rat h1' h2' (Nat.le_refl _)).mono ?_;rintro e wa ⟨⟨r,rfl,hr⟩,ka'⟩;obtain rfl:r=true:=hr.2 HRP.out;clear hr;have ka:Below v.heap.size v wa:=d0.trans (ka'.mono d0.size);obtain ⟨tw1,tw2,tw3,tw4,tw5⟩:=hcells ka;have Rc:=R.below ka (by omega);have q0:=Rc.cell 0 rfl;have q1:=Rc.cell 1 rfl;have p0:=Rc.frozen 0;have p1:=Rc.frozen 1) | fail
     all_goals
      go_wp2
      have Rd2:=Rc.set2 (.int .i64 0) (.int .i64 0);have r0:=Rd2.cell 0 rfl;have r1:=Rd2.cell 1 rfl;refine bodyPost_ret (v:=.tuple #[.agg #[.int .i64 0,.int .i64 0],.bool false]) (by simp [results,Tryz.results41,go_sem,r0,r1]) rfl ?_;exact ⟨by rw [HE.out];rfl,Below.set2 (g.trans (ka.mono (by omega))) (by omega) _ _⟩
 · have HRP:Hid (¬ RightP t.b t.ns t.ds):=hR
   have HE:Hid (measI (measF L) t=none):=measI_num_no H1.out (fun h=>HRP.out h.1);clear hR
   first | go_region_with (go_at_call 75;refine (right_rat h1' h2' (Nat.le_refl _)).mono ?_;rintro e wa ⟨⟨r,rfl,hr⟩,ka'⟩;obtain rfl:r=false:=(by cases r;rfl;exact absurd (hr.1 rfl) HRP.out);clear hr;have ka:Below v.heap.size v wa:=d0.trans (ka'.mono d0.size);obtain ⟨tw1,tw2,tw3,tw4,tw5⟩:=hcells ka;have Rc:=R.below ka (by omega);have q0:=Rc.cell 0 rfl;have q1:=Rc.cell 1 rfl;have p0:=Rc.frozen 0;have p1:=Rc.frozen 1) | fail
   all_goals
    go_wp2
    have Rd2:=Rc.set2 (.int .i64 0) (.int .i64 0);have r0:=Rd2.cell 0 rfl;have r1:=Rd2.cell 1 rfl;refine bodyPost_ret (v:=.tuple #[.agg #[.int .i64 0,.int .i64 0],.bool false]) (by simp [results,Tryz.results41,go_sem,r0,r1]) rfl ?_;exact ⟨by rw [HE.out];rfl,Below.set2 (g.trans (ka.mono (by omega))) (by omega) _ _⟩
end
section
variable {D:Nat→Prop} {f:Nat} {w:World} {a1 a2 a3:Option Addr} {c1 c2 c3:Nat} {t:Tr}
theorem measuredItem_k2 {L:Nat} (e2:t.k=2) (h:ItV (ArV f D w) D w a1 c1 a2 c2 a3 c3 t) (hD:∀ g,D g→g<w.heap.size) :
    Calls Tryz.prog 41 #[.agg #[.int .u8 t.k,.bool t.b,.slice a1 t.ns.length c1,.slice a2 t.ds.length c2,.int .i32 t.c,.slice a3 t.kids.length c3],.int .i64 L] w fun e w'=>e=mEnd (measI (measF L) t)∧Below w.heap.size w w':=by
 have H:Hid (ItV (ArV f D w) D w a1 c1 a2 c2 a3 c3 t):=h;have HD:Hid (∀ g,D g→g<w.heap.size):=hD;have bd3:=h.bx.bounds;have hr1:=h.rn.rd hD;have hr2:=h.rd.rd hD;clear h hD;have X0:=boxA_new w #[.int .u8 t.k,.bool t.b,.slice a1 t.ns.length c1,.slice a2 t.ds.length c2,.int .i32 t.c,.slice a3 t.kids.length c3] 68;have k0:=below_alloc w (.cells #[.int .u8 t.k,.bool t.b,.slice a1 t.ns.length c1,.slice a2 t.ds.length c2,.int .i32 t.c,.slice a3 t.kids.length c3] 68);have k1:=below_alloc (w.alloc (.cells #[.int .u8 t.k,.bool t.b,.slice a1 t.ns.length c1,.slice a2 t.ds.length c2,.int .i32 t.c,.slice a3 t.kids.length c3] 68)) (.cells #[.int .i64 0,.int .i64 0] 55);have R:=boxA_new (w.alloc (.cells #[.int .u8 t.k,.bool t.b,.slice a1 t.ns.length c1,.slice a2 t.ds.length c2,.int .i32 t.c,.slice a3 t.kids.length c3] 68)) #[.int .i64 0,.int .i64 0] 55;rw [World.size_alloc] at R;have X:=X0.below k1 (by simp);have g:Below w.heap.size w _:=k0.trans (k1.mono (by simp));have sv:((w.alloc (.cells #[.int .u8 t.k,.bool t.b,.slice a1 t.ns.length c1,.slice a2 t.ds.length c2,.int .i32 t.c,.slice a3 t.kids.length c3] 68)).alloc (.cells #[.int .i64 0,.int .i64 0] 55)).heap.size=w.heap.size+1+1:=by simp
 replace hr1:=hr1.below g;replace hr2:=hr2.below g;have X0':=X.cell 0 rfl;have X1:=X.cell 1 rfl;have X2:=X.cell 2 rfl;have X3:=X.cell 3 rfl;have X4:=X.cell 4 rfl;have X5:=X.cell 5 rfl;have R0:=R.cell 0 rfl;have R1:=R.cell 1 rfl;have Rf0:=R.frozen 0;have Rf1:=R.frozen 1;go_enter Tryz.func41,Tryz.ntmps41;have d1:(t.k==1)=false:=by rw [beq_eq_false_iff_ne];omega
 have d2:(t.k==2)=true:=by rw [beq_iff_eq];exact e2
 have H2:Hid (t.k=2):=e2;have bn1:=hr1.2;have bn2:=hr2.2;have hl1:t.ns.length≤9223372036854775807:=by obtain ⟨_,_,_,_,h,_⟩:=bn1;omega
 have hl2:t.ds.length≤9223372036854775807:=by obtain ⟨_,_,_,_,h,_⟩:=bn2;omega
 clear e2 bn1 bn2
 go_upto_region 5 with fail
 generalize hA:(w.alloc (.cells #[.int .u8 t.k,.bool t.b,.slice a1 t.ns.length c1,.slice a2 t.ds.length c2,.int .i32 t.c,.slice a3 t.kids.length c3] 68)).alloc (.cells #[.int .i64 0,.int .i64 0] 55)=v at *;clear hA k0 k1 X0;have hcells:∀ {w':World},Below v.heap.size v w'→w'.cell? ⟨w.heap.size,1,none⟩=some (.bool t.b)∧w'.cell? ⟨w.heap.size,2,none⟩=some (.slice a1 t.ns.length c1)∧w'.cell? ⟨w.heap.size,3,none⟩=some (.slice a2 t.ds.length c2)∧w'.cell? ⟨w.heap.size,4,none⟩=some (.int .i32 t.c)∧w'.cell? ⟨w.heap.size,5,none⟩=some (.slice a3 t.kids.length c3):=fun hb=>by
  have Z:=X.below hb (by omega);exact ⟨Z.cell 1 rfl,Z.cell 2 rfl,Z.cell 3 rfl,Z.cell 4 rfl,Z.cell 5 rfl⟩
 have d0:Below v.heap.size v v.drew:=⟨rfl,rfl,rfl,Nat.le_refl _,fun _ _=>rfl⟩;by_cases hR:okR t.c
 · have HRP:Hid (okR t.c):=hR
   clear hR
   cases hn:noneB t with
   | true=>
    have HN:Hid ((!t.b && decide (t.ns.length=0) && decide (t.ds.length=0))=true):=hn;by_cases hk:t.kids.length=0
    · have dk:((t.kids.length:Int)==0)=true:=by rw [beq_iff_eq];omega
      have HE:Hid (measI (measF L) t=some (0,0)):=measI_ch H2.out ⟨HRP.out,hn,hk⟩;clear hn hk
      first | go_region_with (first | (have j:=ka;go_at_call 77;refine (isNone_any t.b a1 t.ns.length c1 a2 t.ds.length c2 _ (by omega) (by omega)).mono ?_;rintro e wb ⟨rfl,hwb⟩;have kb':=below_alloc wa (.cells #[.bool t.b,.slice a1 t.ns.length c1,.slice a2 t.ds.length c2] 34);rw [← hwb] at kb';clear hwb;rw [HN.out];have kb:Below v.heap.size v wb:=ka.trans (kb'.mono ka.size);obtain ⟨uw1,uw2,uw3,uw4,uw5⟩:=hcells kb;have Rc:=R.below kb (by omega);have q0:=Rc.cell 0 rfl;have q1:=Rc.cell 1 rfl;have p0:=Rc.frozen 0;have p1:=Rc.frozen 1) | (go_at_call 76;refine (validRune_any t.c _).mono ?_;rintro e wa ⟨⟨r,rfl,hr⟩,ka'⟩;obtain rfl:r=true:=hr.2 HRP.out;clear hr;have ka:Below v.heap.size v wa:=d0.trans (ka'.mono d0.size);obtain ⟨tw1,tw2,tw3,tw4,tw5⟩:=hcells ka;have Rc:=R.below ka (by omega);have q0:=Rc.cell 0 rfl;have q1:=Rc.cell 1 rfl;have p0:=Rc.frozen 0;have p1:=Rc.frozen 1)) | fail
      all_goals
       go_wp2
       have Rd2:=Rc.set2 (.int .i64 0) (.int .i64 0);have r0:=Rd2.cell 0 rfl;have r1:=Rd2.cell 1 rfl;refine bodyPost_ret (v:=.tuple #[.agg #[.int .i64 0,.int .i64 0],.bool true]) (by simp [results,Tryz.results41,go_sem,r0,r1]) rfl ?_;exact ⟨by rw [HE.out];rfl,Below.set2 (g.trans (kb.mono (by omega))) (by omega) _ _⟩
    · have dk:((t.kids.length:Int)==0)=false:=by rw [beq_eq_false_iff_ne];omega
      have HE:Hid (measI (measF L) t=none):=measI_ch_no H2.out (fun h=>hk h.2.2);clear hn hk
      first | go_region_with (first | (have j:=ka;go_at_call 77;refine (isNone_any t.b a1 t.ns.length c1 a2 t.ds.length c2 _ (by omega) (by omega)).mono ?_;rintro e wb ⟨rfl,hwb⟩;have kb':=below_alloc wa (.cells #[.bool t.b,.slice a1 t.ns.length c1,.slice a2 t.ds.length c2] 34);rw [← hwb] at kb';clear hwb;rw [HN.out];have kb:Below v.heap.size v wb:=ka.trans (kb'.mono ka.size);obtain ⟨uw1,uw2,uw3,uw4,uw5⟩:=hcells kb;have Rc:=R.below kb (by omega);have q0:=Rc.cell 0 rfl;have q1:=Rc.cell 1 rfl;have p0:=Rc.frozen 0;have p1:=Rc.frozen 1) | (go_at_call 76;refine (validRune_any t.c _).mono ?_;rintro e wa ⟨⟨r,rfl,hr⟩,ka'⟩;obtain rfl:r=true:=hr.2 HRP.out;clear hr;have ka:Below v.heap.size v wa:=d0.trans (ka'.mono d0.size);obtain ⟨tw1,tw2,tw3,tw4,tw5⟩:=hcells ka;have Rc:=R.below ka (by omega);have q0:=Rc.cell 0 rfl;have q1:=Rc.cell 1 rfl;have p0:=Rc.frozen 0;have p1:=Rc.frozen 1)) | fail
      all_goals
       go_wp2
       have Rd2:=Rc.set2 (.int .i64 0) (.int .i64 0);have r0:=Rd2.cell 0 rfl;have r1:=Rd2.cell 1 rfl;refine bodyPost_ret (v:=.tuple #[.agg #[.int .i64 0,.int .i64 0],.bool false]) (by simp [results,Tryz.results41,go_sem,r0,r1]) rfl ?_;exact ⟨by rw [HE.out];rfl,Below.set2 (g.trans (kb.mono (by omega))) (by omega) _ _⟩
   | false=>
    have HN:Hid ((!t.b && decide (t.ns.length=0) && decide (t.ds.length=0))=false):=hn;have HE:Hid (measI (measF L) t=none):=measI_ch_no H2.out (fun h=>by rw [hn] at h;cases h.2.1);clear hn
    first | go_region_with (first | (have j:=ka;go_at_call 77;refine (isNone_any t.b a1 t.ns.length c1 a2 t.ds.length c2 _ (by omega) (by omega)).mono ?_;rintro e wb ⟨rfl,hwb⟩;have kb':=below_alloc wa (.cells #[.bool t.b,.slice a1 t.ns.length c1,.slice a2 t.ds.length c2] 34);rw [← hwb] at kb';clear hwb;rw [HN.out];have kb:Below v.heap.size v wb:=ka.trans (kb'.mono ka.size);obtain ⟨uw1,uw2,uw3,uw4,uw5⟩:=hcells kb;have Rc:=R.below kb (by omega);have q0:=Rc.cell 0 rfl;have q1:=Rc.cell 1 rfl;have p0:=Rc.frozen 0;have p1:=Rc.frozen 1) | (go_at_call 76;refine (validRune_any t.c _).mono ?_;rintro e wa ⟨⟨r,rfl,hr⟩,ka'⟩;obtain rfl:r=true:=hr.2 HRP.out;clear hr;have ka:Below v.heap.size v wa:=d0.trans (ka'.mono d0.size);obtain ⟨tw1,tw2,tw3,tw4,tw5⟩:=hcells ka;have Rc:=R.below ka (by omega);have q0:=Rc.cell 0 rfl;have q1:=Rc.cell 1 rfl;have p0:=Rc.frozen 0;have p1:=Rc.frozen 1)) | fail
    all_goals
     go_wp2
     have Rd2:=Rc.set2 (.int .i64 0) (.int .i64 0);have r0:=Rd2.cell 0 rfl;have r1:=Rd2.cell 1 rfl;refine bodyPost_ret (v:=.tuple #[.agg #[.int .i64 0,.int .i64 0],.bool false]) (by simp [results,Tryz.results41,go_sem,r0,r1]) rfl ?_;exact ⟨by rw [HE.out];rfl,Below.set2 (g.trans (kb.mono (by omega))) (by omega) _ _⟩
 · have HRP:Hid (¬ okR t.c):=hR
   have HE:Hid (measI (measF L) t=none):=measI_ch_no H2.out (fun h=>HRP.out h.1);clear hR
   first | go_region_with (go_at_call 76;refine (validRune_any t.c _).mono ?_;rintro e wa ⟨⟨r,rfl,hr⟩,ka'⟩;obtain rfl:r=false:=(by cases r;rfl;exact absurd (hr.1 rfl) HRP.out);clear hr;have ka:Below v.heap.size v wa:=d0.trans (ka'.mono d0.size);obtain ⟨tw1,tw2,tw3,tw4,tw5⟩:=hcells ka;have Rc:=R.below ka (by omega);have q0:=Rc.cell 0 rfl;have q1:=Rc.cell 1 rfl;have p0:=Rc.frozen 0;have p1:=Rc.frozen 1) | fail
   all_goals
    go_wp2
    have Rd2:=Rc.set2 (.int .i64 0) (.int .i64 0);have r0:=Rd2.cell 0 rfl;have r1:=Rd2.cell 1 rfl;refine bodyPost_ret (v:=.tuple #[.agg #[.int .i64 0,.int .i64 0],.bool false]) (by simp [results,Tryz.results41,go_sem,r0,r1]) rfl ?_;exact ⟨by rw [HE.out];rfl,Below.set2 (g.trans (ka.mono (by omega))) (by omega) _ _⟩
end
section
variable {D:Nat→Prop} {f:Nat} {w:World} {a1 a2 a3:Option Addr} {c1 c2 c3:Nat} {t:Tr}
theorem measuredItem_k3 {L:Nat} (hM:MeasOK L) (e3:t.k=3) (h:ItV (ArV f D w) D w a1 c1 a2 c2 a3 c3 t) (hD:∀ g,D g→g<w.heap.size) :
    Calls Tryz.prog 41 #[.agg #[.int .u8 t.k,.bool t.b,.slice a1 t.ns.length c1,.slice a2 t.ds.length c2,.int .i32 t.c,.slice a3 t.kids.length c3],.int .i64 L] w fun e w'=>e=mEnd (measI (measF L) t)∧Below w.heap.size w w':=by
 have HM:Hid (MeasOK L):=hM;have H:Hid (ItV (ArV f D w) D w a1 c1 a2 c2 a3 c3 t):=h;have HD:Hid (∀ g,D g→g<w.heap.size):=hD;have bd3:=h.bx.bounds;have hr1:=h.rn.rd hD;have hr2:=h.rd.rd hD;clear hM h hD;have X0:=boxA_new w #[.int .u8 t.k,.bool t.b,.slice a1 t.ns.length c1,.slice a2 t.ds.length c2,.int .i32 t.c,.slice a3 t.kids.length c3] 68;have k0:=below_alloc w (.cells #[.int .u8 t.k,.bool t.b,.slice a1 t.ns.length c1,.slice a2 t.ds.length c2,.int .i32 t.c,.slice a3 t.kids.length c3] 68);have k1:=below_alloc (w.alloc (.cells #[.int .u8 t.k,.bool t.b,.slice a1 t.ns.length c1,.slice a2 t.ds.length c2,.int .i32 t.c,.slice a3 t.kids.length c3] 68)) (.cells #[.int .i64 0,.int .i64 0] 55);have R:=boxA_new (w.alloc (.cells #[.int .u8 t.k,.bool t.b,.slice a1 t.ns.length c1,.slice a2 t.ds.length c2,.int .i32 t.c,.slice a3 t.kids.length c3] 68)) #[.int .i64 0,.int .i64 0] 55;rw [World.size_alloc] at R;have X:=X0.below k1 (by simp);have g:Below w.heap.size w _:=k0.trans (k1.mono (by simp));have sv:((w.alloc (.cells #[.int .u8 t.k,.bool t.b,.slice a1 t.ns.length c1,.slice a2 t.ds.length c2,.int .i32 t.c,.slice a3 t.kids.length c3] 68)).alloc (.cells #[.int .i64 0,.int .i64 0] 55)).heap.size=w.heap.size+1+1:=by simp
 replace hr1:=hr1.below g;replace hr2:=hr2.below g;have X0':=X.cell 0 rfl;have X1:=X.cell 1 rfl;have X2:=X.cell 2 rfl;have X3:=X.cell 3 rfl;have X4:=X.cell 4 rfl;have X5:=X.cell 5 rfl;have R0:=R.cell 0 rfl;have R1:=R.cell 1 rfl;have Rf0:=R.frozen 0;have Rf1:=R.frozen 1;go_enter Tryz.func41,Tryz.ntmps41;have d1:(t.k==1)=false:=by rw [beq_eq_false_iff_ne];omega
 have d2:(t.k==2)=false:=by rw [beq_eq_false_iff_ne];omega
 have d3:(t.k==3)=true:=by rw [beq_iff_eq];exact e3
 have H3:Hid (t.k=3):=e3;have hl1:t.ns.length≤9223372036854775807:=by obtain ⟨_,_,_,_,_,h,_⟩:=hr1;omega
 have hl2:t.ds.length≤9223372036854775807:=by obtain ⟨_,_,_,_,_,h,_⟩:=hr2;omega
 clear e3
 go_wp2_with fail
 generalize hA:(w.alloc (.cells #[.int .u8 t.k,.bool t.b,.slice a1 t.ns.length c1,.slice a2 t.ds.length c2,.int .i32 t.c,.slice a3 t.kids.length c3] 68)).alloc (.cells #[.int .i64 0,.int .i64 0] 55)=v at *;clear hA k0 k1 X0;refine (isNone_any t.b a1 t.ns.length c1 a2 t.ds.length c2 _ hl1 hl2).mono ?_;rintro e wb ⟨rfl,hwb⟩;have kb:=below_alloc v (.cells #[.bool t.b,.slice a1 t.ns.length c1,.slice a2 t.ds.length c2] 34);rw [← hwb] at kb;clear hwb X0' X1 X2 X3 X4 X5 R0 R1 Rf0 Rf1;have sb:=kb.size;have Xb:=X.below kb (by omega);have x4:=Xb.cell 4 rfl;have x5:=Xb.cell 5 rfl;have Rc:=R.below kb (by omega);have q0:=Rc.cell 0 rfl;have q1:=Rc.cell 1 rfl;have p0:=Rc.frozen 0;have p1:=Rc.frozen 1;have hN:noneB t=(!t.b && decide (t.ns.length=0) && decide (t.ds.length=0)):=rfl;rw [← hN];have HNB:Hid (∀ r,noneB t=r→noneB t=r):=fun _ h=>h
 cases hn:noneB t with
 | false=>
  have HE:Hid (measI (measF L) t=none):=measI_box_no H3.out (fun h=>by rw [hn] at h;cases h.1);clear hn hN;go_wp2
  have Rd2:=Rc.set2 (.int .i64 0) (.int .i64 0);have r0:=Rd2.cell 0 rfl;have r1:=Rd2.cell 1 rfl;refine bodyPost_ret (v:=.tuple #[.agg #[.int .i64 0,.int .i64 0],.bool false]) (by simp [results,Tryz.results41,go_sem,r0,r1]) rfl ?_;exact ⟨by rw [HE.out];rfl,Below.set2 (g.trans (kb.mono (by omega))) (by omega) _ _⟩
 | true=>
  have HN:Hid (noneB t=true):=hn;clear hn hN;by_cases hc:t.c=0
  · have dc:(t.c != 0)=false:=by rw [bne_eq_false_iff_eq];exact hc
    by_cases hk:t.kids.length=1
    · have dk:((t.kids.length:Int) != 1)=false:=by rw [bne_eq_false_iff_eq];omega
      have HC:Hid (t.c=0):=hc;have HKL:Hid (t.kids.length=1):=hk;have hpos:0<t.kids.length:=by omega
      clear hc hk;obtain ⟨gx,ox,rfl,hgx,hcx⟩:=H.out.bx.ptr hpos;obtain ⟨x1,n1,y1,x2,n2,y2,z1,z2,hA⟩:=hcx 0 hpos;rw [Nat.zero_mul,Nat.add_zero] at z1 z2;have gW:Below w.heap.size w wb:=g.trans (kb.mono (by omega));have u1:=(gW.cell (p:=⟨gx,ox,none⟩) (HD.out gx hgx)).trans z1;have u2:=(gW.cell (p:=⟨gx,ox+1,none⟩) (HD.out gx hgx)).trans z2;have HAR:Hid (ArV f D wb (.slice x1 n1 y1) (.slice x2 n2 y2) (t.kids.getD 0 tr0)):=hA.agree (Agree.of gW HD.out);have HDb:Hid (∀ g,D g→g<wb.heap.size):=fun g hg=>by have:=HD.out g hg;omega
      clear hcx z1 z2 hA;obtain ⟨f,rfl⟩:∃ f',f=f'+1:=by
       cases f with
       | zero=>exact HAR.out.elim
       | succ f=>exact ⟨f,rfl⟩
      go_wp2_with fail
      refine (isSimpleT_any HAR.out HDb.out).mono ?_;rintro e wc ⟨rfl,hwc⟩;have kc':=below_alloc wb (.cells #[.slice x1 n1 y1,.slice x2 n2 y2] 25);rw [← hwc] at kc';clear hwc;have kc:Below v.heap.size v wc:=kb.trans (kc'.mono sb);have sc:=kc'.size;have Xc:=X.below kc (by omega);have x5:=Xc.cell 5 rfl;have Rc:=R.below kc (by omega);have q0:=Rc.cell 0 rfl;have q1:=Rc.cell 1 rfl;have p0:=Rc.frozen 0;have p1:=Rc.frozen 1
      cases hs:simpB (t.kids.getD 0 tr0) with
      | true=>
       have HE:Hid (measI (measF L) t=none):=measI_box_no H3.out (fun h=>by rw [hs] at h;cases h.2.2.2);clear hs;go_wp2
       have Rd2:=Rc.set2 (.int .i64 0) (.int .i64 0);have r0:=Rd2.cell 0 rfl;have r1:=Rd2.cell 1 rfl;refine bodyPost_ret (v:=.tuple #[.agg #[.int .i64 0,.int .i64 0],.bool false]) (by simp [results,Tryz.results41,go_sem,r0,r1]) rfl ?_;exact ⟨by rw [HE.out];rfl,Below.set2 (g.trans (kc.mono (by omega))) (by omega) _ _⟩
      | false=>
       have HE:Hid (measI (measF L) t=measF L (t.kids.getD 0 tr0)):=measI_box H3.out ⟨HN.out,HC.out,HKL.out,hs⟩;clear hs;have gc:Below w.heap.size w wc:=g.trans (kc.mono (by omega));have u1:=(kc'.cell (p:=⟨gx,ox,none⟩) (HDb.out gx hgx)).trans u1;have u2:=(kc'.cell (p:=⟨gx,ox+1,none⟩) (HDb.out gx hgx)).trans u2
       go_wp2_with fail
       refine (HM.out (f+1) D wc x1 n1 y1 x2 n2 y2 (t.kids.getD 0 tr0) (fun g hg=>by have:=HDb.out g hg;omega) (HAR.out.agree (Agree.of kc' HDb.out))).mono ?_;rintro e wd ⟨he,kd'⟩;have sd:=kd'.size;have kd:Below v.heap.size v wd:=kc.trans (kd'.mono (by omega));have Rd1:=R.below kd (by omega);have q0:=Rd1.cell 0 rfl;have q1:=Rd1.cell 1 rfl;have p0:=Rd1.frozen 0;have p1:=Rd1.frozen 1;rw [← HE.out] at he;unfold mEnd at he;subst he;generalize hO1:((measI (measF L) t).getD (0,0)).1=A1 at *;generalize hO2:((measI (measF L) t).getD (0,0)).2=A2 at *;generalize hO3:(measI (measF L) t).isSome=A3 at *;have HO:Hid (mEnd (measI (measF L) t)=.returned (.tuple #[.agg #[.int .i64 A1,.int .i64 A2],.bool A3])):=by unfold Hid mEnd;rw [hO1,hO2,hO3]
       clear hO1 hO2 hO3;go_wp2
       have Rd2:=Rd1.set2 (.int .i64 A1) (.int .i64 A2);have r0:=Rd2.cell 0 rfl;have r1:=Rd2.cell 1 rfl;refine bodyPost_ret (v:=.tuple #[.agg #[.int .i64 A1,.int .i64 A2],.bool A3]) (by simp [results,Tryz.results41,go_sem,r0,r1]) rfl ?_;exact ⟨HO.out.symm,Below.set2 (g.trans (kd.mono (by omega))) (by omega) _ _⟩
    · have dk:((t.kids.length:Int) != 1)=true:=by rw [bne_iff_ne];omega
      have HE:Hid (measI (measF L) t=none):=measI_box_no H3.out (fun h=>hk h.2.2.1);clear hc hk;go_wp2
      have Rd2:=Rc.set2 (.int .i64 0) (.int .i64 0);have r0:=Rd2.cell 0 rfl;have r1:=Rd2.cell 1 rfl;refine bodyPost_ret (v:=.tuple #[.agg #[.int .i64 0,.int .i64 0],.bool false]) (by simp [results,Tryz.results41,go_sem,r0,r1]) rfl ?_;exact ⟨by rw [HE.out];rfl,Below.set2 (g.trans (kb.mono (by omega))) (by omega) _ _⟩
  · have dc:(t.c != 0)=true:=by rw [bne_iff_ne];exact hc
    have HE:Hid (measI (measF L) t=none):=measI_box_no H3.out (fun h=>hc h.2.1);clear hc;go_wp2
    have Rd2:=Rc.set2 (.int .i64 0) (.int .i64 0);have r0:=Rd2.cell 0 rfl;have r1:=Rd2.cell 1 rfl;refine bodyPost_ret (v:=.tuple #[.agg #[.int .i64 0,.int .i64 0],.bool false]) (by simp [results,Tryz.results41,go_sem,r0,r1]) rfl ?_;exact ⟨by rw [HE.out];rfl,Below.set2 (g.trans (kb.mono (by omega))) (by omega) _ _⟩
theorem measuredItem_k0 {L:Nat} (e1:¬ t.k=1) (e2:¬ t.k=2) (e3:¬ t.k=3) (h:ItV (ArV f D w) D w a1 c1 a2 c2 a3 c3 t) (hD:∀ g,D g→g<w.heap.size) :
    Calls Tryz.prog 41 #[.agg #[.int .u8 t.k,.bool t.b,.slice a1 t.ns.length c1,.slice a2 t.ds.length c2,.int .i32 t.c,.slice a3 t.kids.length c3],.int .i64 L] w fun e w'=>e=mEnd (measI (measF L) t)∧Below w.heap.size w w':=by
 have H:Hid (ItV (ArV f D w) D w a1 c1 a2 c2 a3 c3 t):=h;have HD:Hid (∀ g,D g→g<w.heap.size):=hD;have bd3:=h.bx.bounds;have hr1:=h.rn.rd hD;have hr2:=h.rd.rd hD;clear h hD;have X0:=boxA_new w #[.int .u8 t.k,.bool t.b,.slice a1 t.ns.length c1,.slice a2 t.ds.length c2,.int .i32 t.c,.slice a3 t.kids.length c3] 68;have k0:=below_alloc w (.cells #[.int .u8 t.k,.bool t.b,.slice a1 t.ns.length c1,.slice a2 t.ds.length c2,.int .i32 t.c,.slice a3 t.kids.length c3] 68);have k1:=below_alloc (w.alloc (.cells #[.int .u8 t.k,.bool t.b,.slice a1 t.ns.length c1,.slice a2 t.ds.length c2,.int .i32 t.c,.slice a3 t.kids.length c3] 68)) (.cells #[.int .i64 0,.int .i64 0] 55);have R:=boxA_new (w.alloc (.cells #[.int .u8 t.k,.bool t.b,.slice a1 t.ns.length c1,.slice a2 t.ds.length c2,.int .i32 t.c,.slice a3 t.kids.length c3] 68)) #[.int .i64 0,.int .i64 0] 55;rw [World.size_alloc] at R;have X:=X0.below k1 (by simp);have g:Below w.heap.size w _:=k0.trans (k1.mono (by simp));have sv:((w.alloc (.cells #[.int .u8 t.k,.bool t.b,.slice a1 t.ns.length c1,.slice a2 t.ds.length c2,.int .i32 t.c,.slice a3 t.kids.length c3] 68)).alloc (.cells #[.int .i64 0,.int .i64 0] 55)).heap.size=w.heap.size+1+1:=by simp
 replace hr1:=hr1.below g;replace hr2:=hr2.below g;have X0':=X.cell 0 rfl;have X1:=X.cell 1 rfl;have X2:=X.cell 2 rfl;have X3:=X.cell 3 rfl;have X4:=X.cell 4 rfl;have X5:=X.cell 5 rfl;have R0:=R.cell 0 rfl;have R1:=R.cell 1 rfl;have Rf0:=R.frozen 0;have Rf1:=R.frozen 1;go_enter Tryz.func41,Tryz.ntmps41;have d1:(t.k==1)=false:=by rw [beq_eq_false_iff_ne];exact e1
 have d2:(t.k==2)=false:=by rw [beq_eq_false_iff_ne];exact e2
 have d3:(t.k==3)=false:=by rw [beq_eq_false_iff_ne];exact e3
 have HE:Hid (measI (measF L) t=none):=measI_else e1 e2 e3;clear e1 e2 e3;go_wp2
 refine bodyPost_ret (v:=.tuple #[.agg #[.int .i64 0,.int .i64 0],.bool false]) (by simp [results,Tryz.results41,go_sem,R0,R1]) rfl ?_;exact ⟨by rw [HE.out];rfl,g⟩
end
def inL (L:Nat) (o:Option (Int×Int)):Prop:=∀ p,o=some p→0≤p.1∧p.1≤L∧0≤p.2∧p.2≤16384
theorem measI_in {L:Nat} {M:Tr→Option (Int×Int)} (hM:∀ t,inL L (M t)) (t:Tr):inL L (measI M t):=by
 intro p hp;by_cases e1:t.k=1
 · by_cases h:RightP t.b t.ns t.ds∧t.c=0∧t.kids.length=0
   · rw [measI_num e1 h] at hp;cases hp;simp
   · rw [measI_num_no e1 h] at hp;cases hp
 by_cases e2:t.k=2
 · by_cases h:okR t.c∧noneB t=true∧t.kids.length=0
   · rw [measI_ch e2 h] at hp;cases hp;simp
   · rw [measI_ch_no e2 h] at hp;cases hp
 by_cases e3:t.k=3
 · by_cases h:noneB t=true∧t.c=0∧t.kids.length=1∧simpB (t.kids.getD 0 tr0)=false
   · rw [measI_box e3 h] at hp;exact hM _ p hp
   · rw [measI_box_no e3 h] at hp;cases hp
 rw [measI_else e1 e2 e3] at hp;cases hp
theorem measL_in {L:Nat} {I:Tr→Option (Int×Int)} (hI:∀ t,inL L (I t)):∀ (l:List Tr) (w p:Int×Int),0≤w.1→w.1≤L+1→0≤w.2→w.2≤16384→measL I l w=some p→0≤p.1∧p.1≤L+1∧0≤p.2∧p.2≤16384
 | [],w,p,h1,h2,h3,h4,h=>by rw [measL] at h;cases h;exact ⟨h1,h2,h3,h4⟩
 | t :: r,w,p,h1,h2,h3,h4,h=>by
  rw [measL] at h
  cases hi:I t with
  | none=>rw [hi] at h;cases h
  | some q=>
   rw [hi] at h;have hq:=hI t q hi;simp only at h;by_cases hc:16384<w.2+q.2
   · rw [if_pos hc] at h;cases h
   · rw [if_neg hc] at h
     exact measL_in hI r _ p (by simp only;omega) (by simp only;omega) (by simp only;omega) (by simp only;omega) h
theorem measF_in:∀ (L:Nat) (t:Tr),inL L (measF L t)
 | 0,t=>by intro p hp;rw [measF] at hp;cases hp
 | L+1,t=>by
  intro p hp;rw [measF] at hp;by_cases hc:(sizeF t.ns).2=0∧(t.kids.length:Int)=max (sizeF t.ns).1 1
  · rw [if_pos hc] at hp
    cases hl:measL (measI (measF L)) t.kids (1,(t.kids.length:Int)) with
    | none=>rw [hl] at hp;cases hp
    | some q=>
     rw [hl] at hp;have hs:=sizeF_in t.ns;have:=measL_in (fun s=>measI_in (measF_in L) s) t.kids _ q (by simp only;omega) (by simp only;omega) (by simp only;omega) (by simp only;omega) hl;simp only at hp
     cases hp
     refine ⟨?_,?_,this.2.2.1,this.2.2.2⟩
     · simp only;split
       · omega
       · exact this.1
     · simp only;split
       · omega
       · have:=this.2.1;push_cast;omega
  · rw [if_neg hc] at hp;cases hp
theorem measuredItem_all {D:Nat→Prop} {f:Nat} {w:World} {a1 a2 a3:Option Addr} {c1 c2 c3:Nat} {t:Tr} {L:Nat} (hM:MeasOK L) (h:ItV (ArV f D w) D w a1 c1 a2 c2 a3 c3 t) (hD:∀ g,D g→g<w.heap.size) :
    Calls Tryz.prog 41 #[.agg #[.int .u8 t.k,.bool t.b,.slice a1 t.ns.length c1,.slice a2 t.ds.length c2,.int .i32 t.c,.slice a3 t.kids.length c3],.int .i64 L] w fun e w'=>e=mEnd (measI (measF L) t)∧Below w.heap.size w w':=by
 by_cases e1:t.k=1
 · exact measuredItem_k1 e1 h hD
 by_cases e2:t.k=2
 · exact measuredItem_k2 e2 h hD
 by_cases e3:t.k=3
 · exact measuredItem_k3 hM e3 h hD
 exact measuredItem_k0 e1 e2 e3 h hD
theorem measL_step {I:Tr→Option (Int×Int)} {l:List Tr} {i:Nat} (hi:i<l.length) (w:Int×Int):measL I (l.drop i) w=match I (l.getD i tr0) with
    | none=>none
    | some p=>if 16384<w.2+p.2 then none else measL I (l.drop (i+1)) (max w.1 (1+p.1),w.2+p.2):=by
 rw [List.drop_eq_getElem_cons hi,measL];have e:l.getD i tr0=l[i]:=by simp [List.getD,hi]
 rw [e]
 cases I l[i] <;> rfl
theorem measL_end {I:Tr→Option (Int×Int)} {l:List Tr} {i:Nat} (hi:l.length≤i) (w:Int×Int):measL I (l.drop i) w=some w:=by
 rw [List.drop_eq_nil_of_le hi,measL]
def finM (t:Tr) (o:Option (Int×Int)):Option (Int×Int):=match o with | none=>none | some p=>some (if simpB t=true then 0 else p.1,p.2)
theorem measF_succ {L:Nat} {t:Tr} (hc:(sizeF t.ns).2=0∧(t.kids.length:Int)=max (sizeF t.ns).1 1):measF (L+1) t=finM t (measL (measI (measF L)) t.kids (1,(t.kids.length:Int))):=by
 rw [measF,if_pos hc];unfold finM
 cases measL (measI (measF L)) t.kids (1,(t.kids.length:Int)) <;> rfl
theorem meas_step {L:Nat} (hL:L≤1000) (hM:MeasOK L):MeasOK (L+1):=by
 intro f D W x1 n1 y1 x2 n2 y2 t hD h;obtain ⟨f,rfl⟩:∃ f',f=f'+1:=by
  cases f with
  | zero=>exact h.elim
  | succ f=>exact ⟨f,rfl⟩
 obtain rfl:=h.1.len;obtain rfl:=h.2.len;have bd1:=h.1.bounds;have bd2:=h.2.bounds;have HM:Hid (MeasOK L):=hM;have H:Hid (ArV (f+1) D W (.slice x1 t.ns.length y1) (.slice x2 t.kids.length y2) t):=h;have HD:Hid (∀ g,D g→g<W.heap.size):=hD;clear hM h hD;have X0:=boxA_new W #[.slice x1 t.ns.length y1,.slice x2 t.kids.length y2] 25;have k0:=below_alloc W (.cells #[.slice x1 t.ns.length y1,.slice x2 t.kids.length y2] 25);have k1:=below_alloc (W.alloc (.cells #[.slice x1 t.ns.length y1,.slice x2 t.kids.length y2] 25)) (.cells #[.int .i64 0,.int .i64 0] 55);have R:=boxA_new (W.alloc (.cells #[.slice x1 t.ns.length y1,.slice x2 t.kids.length y2] 25)) #[.int .i64 0,.int .i64 0] 55;rw [World.size_alloc] at R;have X:=X0.below k1 (by simp);have g:Below W.heap.size W _:=k0.trans (k1.mono (by simp));have sv:((W.alloc (.cells #[.slice x1 t.ns.length y1,.slice x2 t.kids.length y2] 25)).alloc (.cells #[.int .i64 0,.int .i64 0] 55)).heap.size=W.heap.size+1+1:=by simp
 have z0:=X.cell 0 rfl;have z1:=X.cell 1 rfl;go_enter Tryz.func38,Tryz.ntmps38
 go_wp2_with fail
 generalize hA:(W.alloc (.cells #[.slice x1 t.ns.length y1,.slice x2 t.kids.length y2] 25)).alloc (.cells #[.int .i64 0,.int .i64 0] 55)=v at *;clear hA k0 k1 X0;refine (arrSize_any (H.out.1.imp (fun _ h=>h) (Agree.of g HD.out)) (fun g hg=>by have:=HD.out g hg;omega)).mono ?_;rintro e w' ⟨rfl,hw⟩;obtain rfl:=hw.symm;have hsi:=sizeF_in t.ns;have R0:=R.cell 0 rfl;have R1:=R.cell 1 rfl;have Rf0:=R.frozen 0;have Rf1:=R.frozen 1;by_cases hc:(sizeF t.ns).2=0∧(t.kids.length:Int)=max (sizeF t.ns).1 1
 case neg=>
  have HE:Hid (measF (L+1) t=none):=by unfold Hid;rw [measF,if_neg hc]
  generalize (sizeF t.ns).2=E at *;generalize (sizeF t.ns).1=N at *;by_cases he:E=0
  · have d1:(E != 0)=false:=by rw [bne_eq_false_iff_eq];exact he
    have d2:((t.kids.length:Int) != max N 1)=true:=by rw [bne_iff_ne];exact fun h=>hc ⟨he,h⟩
    clear he hc;go_wp2
    have Rd2:=R.set2 (.int .i64 0) (.int .i64 0);have r0:=Rd2.cell 0 rfl;have r1:=Rd2.cell 1 rfl;refine bodyPost_ret (v:=.tuple #[.agg #[.int .i64 0,.int .i64 0],.bool false]) (by simp [results,Tryz.results38,go_sem,r0,r1]) rfl ?_;exact ⟨by rw [HE.out];rfl,Below.set2 g (by omega) _ _⟩
  · have d1:(E != 0)=true:=by rw [bne_iff_ne];exact he
    clear he hc;go_wp2
    have Rd2:=R.set2 (.int .i64 0) (.int .i64 0);have r0:=Rd2.cell 0 rfl;have r1:=Rd2.cell 1 rfl;refine bodyPost_ret (v:=.tuple #[.agg #[.int .i64 0,.int .i64 0],.bool false]) (by simp [results,Tryz.results38,go_sem,r0,r1]) rfl ?_;exact ⟨by rw [HE.out];rfl,Below.set2 g (by omega) _ _⟩
 case pos=>
  have HE:Hid (measF (L+1) t=finM t (measL (measI (measF L)) t.kids (1,(t.kids.length:Int)))):=measF_succ hc;have HIN:Hid (∀ s,inL L (measI (measF L) s)):=fun s=>measI_in (measF_in L) s;have hlen:t.kids.length≤4096:=by have:=hc.2;omega
  have d1:((sizeF t.ns).2 != 0)=false:=by rw [bne_eq_false_iff_eq];exact hc.1
  have d2:((t.kids.length:Int) != max (sizeF t.ns).1 1)=false:=by rw [bne_eq_false_iff_eq];exact hc.2
  have d3:decide (((L+1:Nat):Int)<1)=false:=by simp;omega
  clear hc;generalize (sizeF t.ns).2=E at *;generalize (sizeF t.ns).1=N at *;have Wh0:=boxA_new v #[.int .i64 1,.int .i64 (t.kids.length:Int)] 55;have kwh:=below_alloc v (.cells #[.int .i64 1,.int .i64 (t.kids.length:Int)] 55);have swh:v.heap.size<(v.alloc (.cells #[.int .i64 1,.int .i64 (t.kids.length:Int)] 55)).heap.size:=by simp
  rw [sv] at Wh0;go_wp2
  generalize hA:v.alloc (.cells #[.int .i64 1,.int .i64 (t.kids.length:Int)] 55)=w0 at *;clear hA R0 R1 Rf0 Rf1 z0 z1 d1 d2 d3 hsi
  go_loopw [41] (fun iv wr=>∃ (i:Nat) (d c:Int),iv=.int .i64 i∧i≤t.kids.length∧1≤d∧d≤1001∧0≤c∧c≤16384∧Hid (measL (measI (measF L)) t.kids (1,(t.kids.length:Int))=measL (measI (measF L)) (t.kids.drop i) (d,c))∧BoxA wr (W.heap.size+1+1) 55 #[.int .i64 d,.int .i64 c]∧Below v.heap.size v wr∧v.heap.size<wr.heap.size) (fun iv _=>t.kids.length - (intOf iv).toNat)
  case atStart=>exact ⟨0,1,t.kids.length,rfl,Nat.zero_le _,by omega,by omega,by omega,by omega,rfl,Wh0,kwh,swh⟩
  case round=>
   obtain ⟨i,d,c,rfl,hil,hd1,hd2,hc1,hc2,HL,Wh,hb,hsz⟩:=hrel;have gr:Below W.heap.size W wr:=g.trans (hb.mono (by omega));by_cases hlt:i<t.kids.length
   · obtain ⟨gx,ox,rfl,hgx,hcx⟩:=H.out.2.ptr (by omega)
     obtain ⟨a1,c1,a2,c2,a3,c3,⟨e0,e1,e2,e3,e4,e5⟩,hp⟩:=hcx i hlt;have E0:=(gr.cell (p:=⟨gx,ox+i*6,none⟩) (HD.out gx hgx)).trans e0;have E1:=(gr.cell (p:=⟨gx,ox+i*6+1,none⟩) (HD.out gx hgx)).trans e1;have E2:=(gr.cell (p:=⟨gx,ox+i*6+2,none⟩) (HD.out gx hgx)).trans e2;have E3:=(gr.cell (p:=⟨gx,ox+i*6+3,none⟩) (HD.out gx hgx)).trans e3;have E4:=(gr.cell (p:=⟨gx,ox+i*6+4,none⟩) (HD.out gx hgx)).trans e4;have E5:=(gr.cell (p:=⟨gx,ox+i*6+5,none⟩) (HD.out gx hgx)).trans e5;have HS:=measL_step (I:=measI (measF L)) hlt (d,c);rw [← HL.out] at HS;have hin:=HIN.out (t.kids.getD i tr0);have HST:Hid (measL (measI (measF L)) t.kids (1,(t.kids.length:Int))=match measI (measF L) (t.kids.getD i tr0) with
         | none=>none
         | some p=>if 16384<c+p.2 then none else measL (measI (measF L)) (t.kids.drop (i+1)) (max d (1+p.1),c+p.2)):=HS
     clear HS HL hcx e0 e1 e2 e3 e4 e5;generalize t.kids.getD i tr0=T at *;have NX:=boxA_new wr #[.int .u8 T.k,.bool T.b,.slice a1 T.ns.length c1,.slice a2 T.ds.length c2,.int .i32 T.c,.slice a3 T.kids.length c3] 68;have kx:=below_alloc wr (.cells #[.int .u8 T.k,.bool T.b,.slice a1 T.ns.length c1,.slice a2 T.ds.length c2,.int .i32 T.c,.slice a3 T.kids.length c3] 68);have sx:wr.heap.size<(wr.alloc (.cells #[.int .u8 T.k,.bool T.b,.slice a1 T.ns.length c1,.slice a2 T.ds.length c2,.int .i32 T.c,.slice a3 T.kids.length c3] 68)).heap.size:=by simp
     have m0:=NX.cell 0 rfl;have m1:=NX.cell 1 rfl;have m2:=NX.cell 2 rfl;have m3:=NX.cell 3 rfl;have m4:=NX.cell 4 rfl;have m5:=NX.cell 5 rfl;have hlv:((L:Int)+1 - 1)=(L:Int):=by omega
     go_wp2_with fail
     have hDx:∀ g,D g→g<(wr.alloc (.cells #[.int .u8 T.k,.bool T.b,.slice a1 T.ns.length c1,.slice a2 T.ds.length c2,.int .i32 T.c,.slice a3 T.kids.length c3] 68)).heap.size:=fun g hg=>by have:=HD.out g hg;omega
     have gx2:Below W.heap.size W (wr.alloc (.cells #[.int .u8 T.k,.bool T.b,.slice a1 T.ns.length c1,.slice a2 T.ds.length c2,.int .i32 T.c,.slice a3 T.kids.length c3] 68)):=gr.trans (kx.mono (by omega));have hit:=hp.agree (Agree.of gx2 HD.out);have Whx:=Wh.below kx (by omega);have hbx:Below v.heap.size v _:=hb.trans (kx.mono (by omega));generalize hA:wr.alloc (.cells #[.int .u8 T.k,.bool T.b,.slice a1 T.ns.length c1,.slice a2 T.ds.length c2,.int .i32 T.c,.slice a3 T.kids.length c3] 68)=wx at *;clear hA m0 m1 m2 m3 m4 m5 NX E0 E1 E2 E3 E4 E5 hp;refine (measuredItem_all HM.out hit hDx).mono ?_;rintro e wy ⟨rfl,ky⟩;clear hit hDx;have sy:=ky.size;have Why:=Whx.below ky (by omega);have hby:Below v.heap.size v wy:=hbx.trans (ky.mono (by omega))
     cases ho:measI (measF L) T with
     | none=>
      have HN:Hid (measF (L+1) t=none):=by unfold Hid;rw [HE.out,HST.out,ho];rfl
      clear ho HST hin;unfold mEnd;dsimp only [Option.getD_none,Option.isSome_none];have kp:=below_alloc wy (.cells #[.int .i64 0,.int .i64 0] 55);have P:=boxA_new wy #[.int .i64 0,.int .i64 0] 55;have Whp:=Why.below kp (by omega);have n1:wy.heap.size≠W.heap.size+1+1:=by omega
      have n2:W.heap.size+1+1≠wy.heap.size:=by omega
      have p0:=P.cell 0 rfl;have p1:=P.cell 1 rfl;have f0:=Whp.cell 0 rfl;have f1:=Whp.cell 1 rfl;have ff0:=Whp.frozen 0;have ff1:=Whp.frozen 1;have Rp:=(R.below hby (by omega)).below kp (by omega);have r0:=Rp.cell 0 rfl;have r1:=Rp.cell 1 rfl;have rf0:=Rp.frozen 0;have rf1:=Rp.frozen 1;go_wp2
      have RR:=((Rp.other (p:=⟨W.heap.size+1+1,0,none⟩) (show W.heap.size+1+1≠W.heap.size+1 by omega) (.int .i64 (max d 1))).other (p:=⟨W.heap.size+1+1,1,none⟩) (show W.heap.size+1+1≠W.heap.size+1 by omega) (.int .i64 (c))).set2 (.int .i64 0) (.int .i64 0);have s0:=RR.cell 0 rfl;have s1:=RR.cell 1 rfl;refine bodyPost_ret (v:=.tuple #[.agg #[.int .i64 0,.int .i64 0],.bool false]) (by simp [results,Tryz.results38,go_sem,s0,s1]) rfl ?_;exact ⟨by rw [HN.out];rfl,Below.set2 (((g.trans ((hby.trans (kp.mono (by omega))).mono (by omega))).setCell (p:=⟨W.heap.size+1+1,0,none⟩) (show W.heap.size≤W.heap.size+1+1 by omega) _).setCell (p:=⟨W.heap.size+1+1,1,none⟩) (show W.heap.size≤W.heap.size+1+1 by omega) _) (by omega) _ _⟩
     | some q=>
      have hq:=hin q ho;obtain ⟨q1,q2⟩:=q;simp only at hq;unfold mEnd;dsimp only [Option.getD_some,Option.isSome_some];have kp:=below_alloc wy (.cells #[.int .i64 q1,.int .i64 q2] 55);have P:=boxA_new wy #[.int .i64 q1,.int .i64 q2] 55;have sp:wy.heap.size<(wy.alloc (.cells #[.int .i64 q1,.int .i64 q2] 55)).heap.size:=by simp
      have Whp:=Why.below kp (by omega);have n1:wy.heap.size≠W.heap.size+1+1:=by omega
      have n2:W.heap.size+1+1≠wy.heap.size:=by omega
      have p0:=P.cell 0 rfl;have p1:=P.cell 1 rfl;have f0:=Whp.cell 0 rfl;have f1:=Whp.cell 1 rfl;have ff0:=Whp.frozen 0;have ff1:=Whp.frozen 1;have Rp:=(R.below hby (by omega)).below kp (by omega);have r0:=Rp.cell 0 rfl;have r1:=Rp.cell 1 rfl;have rf0:=Rp.frozen 0;have rf1:=Rp.frozen 1;by_cases hbig:16384<c+q2
      · have HN:Hid (measF (L+1) t=none):=by unfold Hid;rw [HE.out,HST.out,ho];simp only;rw [if_pos hbig];rfl
        clear ho HST hin;go_wp2
        have RR:=((Rp.other (p:=⟨W.heap.size+1+1,0,none⟩) (show W.heap.size+1+1≠W.heap.size+1 by omega) (.int .i64 (max d (1+q1)))).other (p:=⟨W.heap.size+1+1,1,none⟩) (show W.heap.size+1+1≠W.heap.size+1 by omega) (.int .i64 (c+q2))).set2 (.int .i64 0) (.int .i64 0);have s0:=RR.cell 0 rfl;have s1:=RR.cell 1 rfl;refine bodyPost_ret (v:=.tuple #[.agg #[.int .i64 0,.int .i64 0],.bool false]) (by simp [results,Tryz.results38,go_sem,s0,s1]) rfl ?_;exact ⟨by rw [HN.out];rfl,Below.set2 (((g.trans ((hby.trans (kp.mono (by omega))).mono (by omega))).setCell (p:=⟨W.heap.size+1+1,0,none⟩) (show W.heap.size≤W.heap.size+1+1 by omega) _).setCell (p:=⟨W.heap.size+1+1,1,none⟩) (show W.heap.size≤W.heap.size+1+1 by omega) _) (by omega) _ _⟩
      · have HN:Hid (measL (measI (measF L)) t.kids (1,(t.kids.length:Int))=measL (measI (measF L)) (t.kids.drop (i+1)) (max d (1+q1),c+q2)):=by unfold Hid;rw [HST.out,ho];simp only;rw [if_neg hbig]
        clear ho HST hin;go_wp2
        go_roundw
        case rel=>
         have WW:=Whp.set2 (.int .i64 (max d (1+q1))) (.int .i64 (c+q2));exact ⟨i+1,max d (1+q1),c+q2,by go_num,by omega,by omega,by omega,by omega,by omega,HN,WW,((hby.trans (kp.mono (by omega))).setCell (p:=⟨W.heap.size+1+1,0,none⟩) (show v.heap.size≤W.heap.size+1+1 by omega) _).setCell (p:=⟨W.heap.size+1+1,1,none⟩) (show v.heap.size≤W.heap.size+1+1 by omega) _,by simp [World.setCell];omega⟩
        case measure=>simp [intOf];omega
   · have HF:Hid (measF (L+1) t=some (if simpB t=true then 0 else d,c)):=by
      unfold Hid;rw [HE.out,HL.out,measL_end (by omega)];rfl
     have Xr:=X.below hb (by omega);have x0:=Xr.cell 0 rfl;have x1':=Xr.cell 1 rfl
     go_wp2_with fail
     refine (isSimpleT_any (H.out.agree (Agree.of gr HD.out)) (fun g hg=>by have:=HD.out g hg;omega)).mono ?_;rintro e ws ⟨rfl,hws⟩;have ks:=below_alloc wr (.cells #[.slice x1 t.ns.length y1,.slice x2 t.kids.length y2] 25);rw [← hws] at ks;clear hws x0 x1';have ss:=ks.size;have Whs:=Wh.below ks (by omega);have hbs:Below v.heap.size v ws:=hb.trans (ks.mono (by omega));have Rs:=R.below hbs (by omega);have f0:=Whs.cell 0 rfl;have f1:=Whs.cell 1 rfl;have ff0:=Whs.frozen 0;have ff1:=Whs.frozen 1;have r0:=Rs.cell 0 rfl;have r1:=Rs.cell 1 rfl;have rf0:=Rs.frozen 0;have rf1:=Rs.frozen 1;have n1:W.heap.size+1≠W.heap.size+1+1:=by omega
     have n2:W.heap.size+1+1≠W.heap.size+1:=by omega
     cases hs:simpB t with
     | true=>
      have HF2:Hid (measF (L+1) t=some (0,c)):=by unfold Hid;rw [HF.out,hs];rfl
      clear hs HF;go_wp2
      have RR:=(Rs.other (p:=⟨W.heap.size+1+1,0,none⟩) (show W.heap.size+1+1≠W.heap.size+1 by omega) (.int .i64 0)).set2 (.int .i64 0) (.int .i64 c);have s0:=RR.cell 0 rfl;have s1:=RR.cell 1 rfl;refine bodyPost_ret (v:=.tuple #[.agg #[.int .i64 0,.int .i64 c],.bool true]) (by simp [results,Tryz.results38,go_sem,s0,s1]) rfl ?_;exact ⟨by rw [HF2.out];rfl,Below.set2 ((g.trans (hbs.mono (by omega))).setCell (p:=⟨W.heap.size+1+1,0,none⟩) (show W.heap.size≤W.heap.size+1+1 by omega) _) (by omega) _ _⟩
     | false=>
      have HF2:Hid (measF (L+1) t=some (d,c)):=by unfold Hid;rw [HF.out,hs];rfl
      clear hs HF;go_wp2
      have RR:=Rs.set2 (.int .i64 d) (.int .i64 c);have s0:=RR.cell 0 rfl;have s1:=RR.cell 1 rfl;refine bodyPost_ret (v:=.tuple #[.agg #[.int .i64 d,.int .i64 c],.bool true]) (by simp [results,Tryz.results38,go_sem,s0,s1]) rfl ?_;exact ⟨by rw [HF2.out];rfl,Below.set2 (g.trans (hbs.mono (by omega))) (by omega) _ _⟩
end Go.Proofs.YtheaeggecpfcbaaGreat
