/- The document's Same of any two numbers. -/
import Derived.Test.YtilbfkabfgnhpaaGreatKT
import Derived.Test.YtilbfkabfgnhpaaGreatKE
import Derived.Test.YtilbfkabfgnhpaaGreatK8
import Derived.Test.YtilbfkabfgnhpaaGreatV1
import Derived.Test.YtilbfkabfgnhpaaGreatKS4
import Derived.Test.YtilbfkabfgnhpaaGreatP8
import Derived.Test.YtilbfkabfgnhpaaGreatKC
set_option maxRecDepth 100000
set_option maxHeartbeats 16000000
set_option linter.unusedVariables false
set_option linter.unusedSimpArgs false
namespace Go.Proofs.YtilbfkabfgnhpaaGreat
open Go.RowKit
section
variable {w:World} {b b':Bool} {a1 a2 a3 a4:Option Addr} {c1 c2 c3 c4:Nat} {ns ds ms es:List Int}
/-- Two numbers, whatever they are. -/
theorem same02_any (h1:Rd w.heap.size w (.slice a1 ns.length c1) ns) (h2:Rd w.heap.size w (.slice a2 ds.length c2) ds) (h3:Rd w.heap.size w (.slice a3 ms.length c3) ms) (h4:Rd w.heap.size w (.slice a4 es.length c4) es) :
    Calls Tryz.prog 7 #[.agg #[.bool b,.slice a1 ns.length c1,.slice a2 ds.length c2],.agg #[.bool b',.slice a3 ms.length c3,.slice a4 es.length c4]] w fun e w'=>AnsB e ((b=b'∧ns=ms∧ds=es))∧Below w.heap.size w w':=by
 obtain ⟨X,Y,b0⟩:=nvar_in2 (bx:=b) (cy:=b') h1 h2 h3 h4;have x0:=X.k0;have x1:=X.k1;have x2:=X.k2;have y0:=Y.k0;have y1:=Y.k1;have y2:=Y.k2;by_cases hbb:¬ b=b'
 · have hb:(b==b')=false:=by rw [beq_eq_false_iff_ne];exact hbb
   have HB:Hid (¬ b=b'):=hbb;clear hbb;go_enter Tryz.func7,Tryz.ntmps7;go_wp2
   go_ret
   exact ⟨⟨false,rfl,⟨fun h=>(by cases h),fun h=>absurd h.1 HB.out⟩⟩,b0⟩
 have hbb:b=b':=Decidable.not_not.1 hbb;have HB:Hid (b=b'):=hbb;have hb:(b==b')=true:=by rw [beq_iff_eq];exact hbb
 clear hbb;go_enter Tryz.func7,Tryz.ntmps7
 go_wp2_with fail
 clear x0 x1 x2 y0 y1 y2;generalize hA:(w.alloc (.cells #[.bool b,.slice a1 ns.length c1,.slice a2 ds.length c2] 24)).alloc (.cells #[.bool b',.slice a3 ms.length c3,.slice a4 es.length c4] 24)=v at *;clear hA;refine (refSame_any X.rn Y.rn).mono ?_;rintro e w1 ⟨rfl,k1⟩;replace X:=X.below k1;replace Y:=Y.below k1;have x2:=X.k2;have y2:=Y.k2;by_cases hns:¬ ns=ms
 · have HN:Hid (¬ ns=ms):=hns
   rw [decide_eq_false hns];clear hns;go_wp2
   go_ret
   exact ⟨⟨false,rfl,⟨fun h=>(by cases h),fun h=>absurd h.2.1 HN.out⟩⟩,b0.trans (k1.mono b0.size)⟩
 have hns:ns=ms:=Decidable.not_not.1 hns;have HN:Hid (ns=ms):=hns;rw [decide_eq_true hns];clear hns
 go_wp2_with fail
 refine (refSame_any X.rd Y.rd).mono ?_;rintro e w2 ⟨rfl,k2⟩;obtain ⟨β,hβ⟩:∃ β,decide (ds=es)=β:=⟨_,rfl⟩;have HBe:Hid (β=true↔ds=es):=by unfold Hid;rw [← hβ];exact decide_eq_true_iff
 rw [hβ];clear hβ;go_wp2
 go_ret
 exact ⟨⟨β,rfl,⟨fun h=>⟨HB.out,HN.out,HBe.out.1 h⟩,fun h=>HBe.out.2 h.2.2⟩⟩,(b0.trans (k1.mono b0.size)).trans (k2.mono (Nat.le_trans b0.size k1.size))⟩
end
section
variable {w:World} {bx:Bool} {a1 a2:Option Addr} {c1 c2:Nat} {xn xd:List Int}
theorem refIsBit_any (hr:RightP bx xn xd) (h1:Rd w.heap.size w (.slice a1 xn.length c1) xn) (h2:Rd w.heap.size w (.slice a2 xd.length c2) xd) :
    Calls Tryz.prog 23 #[.agg #[.bool bx,.slice a1 xn.length c1,.slice a2 xd.length c2]] w fun e w'=>e=.returned (.bool (bitB bx xn xd))∧Below w.heap.size w w':=by
 have HP:Hid (RightP bx xn xd):=hr;have g:=below_alloc w (.cells #[.bool bx,.slice a1 xn.length c1,.slice a2 xd.length c2] 24);have Xb:=boxA_new w #[.bool bx,.slice a1 xn.length c1,.slice a2 xd.length c2] 24;have HR:Hid (∀ {w':World},Below w.heap.size w w'→Rd w'.heap.size w' (.slice a1 xn.length c1) xn∧Rd w'.heap.size w' (.slice a2 xd.length c2) xd):=fun k=>⟨(h1.below k).mono k.size,(h2.below k).mono k.size⟩;have x0:=Xb.cell 0 rfl;have x1:=Xb.cell 1 rfl;have x2:=Xb.cell 2 rfl;clear h1 h2 hr;by_cases hx:xn=[]
 · have HB:Hid (bitB bx xn xd=true):=by unfold Hid bitB;rw [hx];rfl
   have HX:Hid (xn=[]):=hx;clear hx;go_enter Tryz.func23,Tryz.ntmps23
   go_wp2_with fail
   generalize hA:w.alloc (.cells #[.bool bx,.slice a1 xn.length c1,.slice a2 xd.length c2] 24)=v at *;clear hA;have sv:w.heap.size<v.heap.size:=Xb.lt;have d0:Below v.heap.size v v.drew:=⟨rfl,rfl,rfl,Nat.le_refl _,fun _ _=>rfl⟩;have gd:Below w.heap.size w v.drew:=g.trans (d0.mono g.size);have Xd:=Xb.below d0 sv;have s0:=d0.size;clear x0 x1 x2;have x0:=Xd.cell 0 rfl;have x1:=Xd.cell 1 rfl;have x2:=Xd.cell 2 rfl
   first | go_region_with (first
    | (have j:=b1;refine (same02_any (b:=bx) (b':=false) (ms:=[]) (HR.out g1).1 (HR.out g1).2 (nil_rd _) O1).mono ?_;rintro e w2 ⟨⟨β,rfl,hβ⟩,b2⟩;have hz:=bit_is HP.out HB.out;obtain rfl:β=true:=hβ.out.2 ⟨hz.1,HX.out,by rw [hz.2.2,HZ.out]⟩;have g2:Below w.heap.size w w2:=g1.trans (b2.mono g1.size);clear hβ hz)
    | (refine (refZero5_any _).mono ?_;rintro e w1 ⟨zd,za,zc,HZ,rfl,o1,b1⟩;have O1:Rd w1.heap.size w1 (.slice za zd.length zc) zd:=o1.rd;clear o1;have g1:Below w.heap.size w w1:=gd.trans (b1.mono gd.size);have X1:=Xd.below b1 (by omega);have x0':=X1.cell 0 rfl;have x1':=X1.cell 1 rfl;have x2':=X1.cell 2 rfl)) | fail
   all_goals
    go_wp2
    go_ret
    exact ⟨by rw [HB.out];rfl,g2⟩
 · have HX:Hid (xn≠[]):=hx
   obtain ⟨B,hB⟩:∃ B,bitB bx xn xd=B:=⟨_,rfl⟩;have HB:Hid (bitB bx xn xd=B):=hB;have HC:Hid (B=true↔bx=false∧xn=[1]∧xd=[1]):=by
    unfold Hid;rw [← hB];constructor
    · intro h
      have hz:=bit_is HP.out h;refine ⟨hz.1,?_,hz.2.2⟩;rw [hz.2.1,decide_eq_true hx];rfl
    · rintro ⟨rfl,rfl,rfl⟩
      rfl
   clear hx hB;go_enter Tryz.func23,Tryz.ntmps23
   go_wp2_with fail
   generalize hA:w.alloc (.cells #[.bool bx,.slice a1 xn.length c1,.slice a2 xd.length c2] 24)=v at *;clear hA;have sv:w.heap.size<v.heap.size:=Xb.lt;have d0:Below v.heap.size v v.drew:=⟨rfl,rfl,rfl,Nat.le_refl _,fun _ _=>rfl⟩;have gd:Below w.heap.size w v.drew:=g.trans (d0.mono g.size);have Xd:=Xb.below d0 sv;have s0:=d0.size;clear x0 x1 x2;have x0:=Xd.cell 0 rfl;have x1:=Xd.cell 1 rfl;have x2:=Xd.cell 2 rfl
   first | go_region_with (first
    | (have j:=b3;refine (same02_any (b:=bx) (b':=bo) (HR.out g3).1 (HR.out g3).2 P1 P2).mono ?_;rintro e w4 ⟨⟨β,rfl,hβ⟩,b4⟩;have hz:=whole_oneS HW.out;obtain rfl:β=B:=by { rw [Bool.eq_iff_iff];rw [hβ.out,HC.out,hz.1,hz.2.1,hz.2.2] };have g4:Below w.heap.size w w4:=g3.trans (b4.mono g3.size);clear hβ hz)
    | (have j:=b2;refine (refOfInt_any 1 (by decide) (by decide) _).mono ?_;rintro e w3 ⟨b3,bo,no,d1,p1,p2,p3,p4,HW,rfl,o1,o2⟩;have P1:Rd w3.heap.size w3 (.slice p1 no.length p2) no:=o1.rd;have P2:Rd w3.heap.size w3 (.slice p3 d1.length p4) d1:=o2.rd;clear o1 o2;have g3:Below w.heap.size w w3:=g2.trans (b3.mono g2.size);have s3:=b3.size;have X3:=X2.below b3 (by omega);have x0'':=X3.cell 0 rfl;have x1'':=X3.cell 1 rfl;have x2'':=X3.cell 2 rfl)
    | (have j:=b1;refine (same02_any (b:=bx) (b':=false) (ms:=[]) (HR.out g1).1 (HR.out g1).2 (nil_rd _) O1).mono ?_;rintro e w2 ⟨⟨β,rfl,hβ⟩,b2⟩;obtain rfl:β=false:=(by cases β;{ rfl };{ exact absurd (hβ.out.1 rfl).2.1 HX.out });have g2:Below w.heap.size w w2:=g1.trans (b2.mono g1.size);clear hβ;have s2:=b2.size;have X2:=X1.below b2 (by omega);have x0b:=X2.cell 0 rfl;have x1b:=X2.cell 1 rfl;have x2b:=X2.cell 2 rfl)
    | (refine (refZero5_any _).mono ?_;rintro e w1 ⟨zd,za,zc,HZ,rfl,o1,b1⟩;have O1:Rd w1.heap.size w1 (.slice za zd.length zc) zd:=o1.rd;clear o1;have g1:Below w.heap.size w w1:=gd.trans (b1.mono gd.size);have s1:=b1.size;have X1:=Xd.below b1 (by omega);have x0':=X1.cell 0 rfl;have x1':=X1.cell 1 rfl;have x2':=X1.cell 2 rfl)) | fail
   all_goals
    go_wp2
    go_ret
    exact ⟨by rw [HB.out];rfl,g4⟩
end
/-- 1 or 0. -/
def BitAns (w:World) (h:Bool) (e:Ending) (w':World):Prop:=Below w.heap.size w w'∧∃ b ns ds a1 c1 a2 c2,Hid (b=false∧ns=bitL h∧ds=[1])∧e=.returned (.agg #[.bool b,.slice a1 ns.length c1,.slice a2 ds.length c2])∧Own w.heap.size w' (.slice a1 ns.length c1) ns∧Own w.heap.size w' (.slice a2 ds.length c2) ds
theorem refBool01_any (h:Bool) (w:World):Calls Tryz.prog 24 #[.bool h] w fun e w'=>BitAns w h e w':=by
 have g:=below_alloc w (.cells #[.bool false,.slice none 0 0,.slice none 0 0] 24);have R:=boxA_new w #[.bool false,.slice none 0 0,.slice none 0 0] 24
 cases h
 · go_enter Tryz.func24,Tryz.ntmps24
   go_wp2_with fail
   generalize hA:w.alloc (.cells #[.bool false,.slice none 0 0,.slice none 0 0] 24)=v at *;clear hA;refine (refZero5_any _).mono ?_;rintro e w1 ⟨zd,za,zc,HZ,rfl,o1,b1⟩;have sv:w.heap.size<v.heap.size:=R.lt;have O1:Hid (Own v.heap.size w1 (.slice za zd.length zc) zd):=o1;clear o1;have s1:=b1.size;have R1:=R.below b1 sv;have r0:=R1.cell 0 rfl;have r1:=R1.cell 1 rfl;have r2:=R1.cell 2 rfl;have f0:=R1.frozen 0;have f1:=R1.frozen 1;have f2:=R1.frozen 2;have Rz:=((R1.put 0 (.bool false)).put 1 (.slice none 0 0)).put 2 (.slice za zd.length zc);have y0:=Rz.cell 0 rfl;have y1:=Rz.cell 1 rfl;have y2:=Rz.cell 2 rfl;go_wp2
   refine bodyPost_ret (v:=.agg #[.bool false,.slice none 0 0,.slice za zd.length zc]) (by simp [results,Tryz.results24,go_sem,y0,y1,y2]) rfl ?_;have gF:=Below.set3 (g.trans (b1.mono g.size)) (Nat.le_refl _) (.bool false) (.slice none 0 0) (.slice za zd.length zc);exact ⟨gF,false,[],zd,none,0,za,zc,⟨rfl,rfl,HZ.out⟩,rfl,⟨lim_nil,World.ownsRow_nil _ _ _ _⟩,(O1.out.set3 sv _ _ _).mono (by omega)⟩
 · go_enter Tryz.func24,Tryz.ntmps24
   go_wp2_with fail
   generalize hA:w.alloc (.cells #[.bool false,.slice none 0 0,.slice none 0 0] 24)=v at *;clear hA;refine (refOfInt_any 1 (by decide) (by decide) _).mono ?_;rintro e w1 ⟨b1,b,ns,ds,z1,u1,z2,u2,HW,rfl,o1,o2⟩;have sv:w.heap.size<v.heap.size:=R.lt;have O1:Hid (Own v.heap.size w1 (.slice z1 ns.length u1) ns):=o1;have O2:Hid (Own v.heap.size w1 (.slice z2 ds.length u2) ds):=o2;clear o1 o2;have s1:=b1.size;have R1:=R.below b1 sv;have r0:=R1.cell 0 rfl;have r1:=R1.cell 1 rfl;have r2:=R1.cell 2 rfl;have f0:=R1.frozen 0;have f1:=R1.frozen 1;have f2:=R1.frozen 2;have Rz:=((R1.put 0 (.bool b)).put 1 (.slice z1 ns.length u1)).put 2 (.slice z2 ds.length u2);have y0:=Rz.cell 0 rfl;have y1:=Rz.cell 1 rfl;have y2:=Rz.cell 2 rfl;go_wp2
   refine bodyPost_ret (v:=.agg #[.bool b,.slice z1 ns.length u1,.slice z2 ds.length u2]) (by simp [results,Tryz.results24,go_sem,y0,y1,y2]) rfl ?_;have gF:=Below.set3 (g.trans (b1.mono g.size)) (Nat.le_refl _) (.bool b) (.slice z1 ns.length u1) (.slice z2 ds.length u2);exact ⟨gF,b,ns,ds,z1,u1,z2,u2,whole_oneS HW.out,rfl,(O1.out.set3 sv _ _ _).mono (by omega),(O2.out.set3 sv _ _ _).mono (by omega)⟩
/-- The characters of a text from a place on. -/
def rsF (s:ByteArray):Nat→Nat→List Int
 | 0,_=>[]
 | f+1,pos=>if pos<s.size then ((Utf8.decode s pos).1:Int) :: rsF s f (pos+(Utf8.decode s pos).2) else []
theorem in_any (s:ByteArray) (g:Int) (w:World):Calls Tryz.prog 57 #[.int .i32 g,.string s] w fun e w'=>e=.returned (.bool ((rsF s s.size 0).contains g))∧Below w.heap.size w w':=by
 go_enter Tryz.func57,Tryz.ntmps57;go_wp2
 go_loopw [] (fun wr=>∃ (pos fuel:Nat),wr.heap[w.heap.size]? = some (.stringIter s pos)∧Hid ((rsF s fuel pos).contains g=(rsF s s.size 0).contains g)∧s.size≤pos+fuel∧Below w.heap.size w wr) (fun wr=>s.size - wr.iterPos w.heap.size)
 case atStart=>
  exact ⟨0,s.size,World.iter_heap w s 0,rfl,by omega,below_alloc _ _⟩
 case round=>
  obtain ⟨pos,fuel,hit,HD,hf,hb⟩:=hrel;by_cases hp:pos<s.size
  · have hnx:∀ ty,(Instr.next (.pointer (some ⟨w.heap.size,0,none⟩)) true ty).run Tryz.prog wr=_:=fun ty=>Lib.run_next_any_at wr w.heap.size s pos ty hit hp
    have hwd:=Lib.decode_width_pos s pos hp;obtain ⟨f,rfl⟩:∃ f,fuel=f+1:=⟨fuel - 1,by omega⟩;have HS:Hid ((rsF s (f+1) pos)=((Utf8.decode s pos).1:Int) :: rsF s f (pos+(Utf8.decode s pos).2)):=by
     unfold Hid;rw [rsF,if_pos hp]
    have hit2:=Lib.iterAt_heap wr w.heap.size s pos (pos+(Utf8.decode s pos).2) hit;have hb2:=Lib.below_iterAt hb (k:=w.heap.size) (by omega) s (pos+(Utf8.decode s pos).2);have HQ:Hid (wr.iterPos w.heap.size=pos):=by unfold Hid;simp only [World.iterPos,hit]
    generalize (Utf8.decode s pos).2=n at *;generalize (Utf8.decode s pos).1=C at *;generalize wr.iterAt w.heap.size s (pos+n)=W2 at *;clear hit hb;by_cases hc:(C:Int)=g
    · have hC:((C:Int)==g)=true:=by rw [beq_iff_eq];exact hc
      have HE:Hid ((rsF s s.size 0).contains g=true):=by unfold Hid;rw [← HD.out,HS.out,List.contains_cons,hc];simp
      clear hc HD HS;go_wp2
      go_ret
      exact ⟨by rw [HE.out];rfl,hb2⟩
    · have hC:((C:Int)==g)=false:=by rw [beq_eq_false_iff_ne];exact hc
      have HE:Hid ((rsF s f (pos+n)).contains g=(rsF s s.size 0).contains g):=by
       unfold Hid;rw [← HD.out,HS.out,List.contains_cons];have:(g==(C:Int))=false:=by rw [beq_eq_false_iff_ne];exact fun h=>hc h.symm
       rw [this];rfl
      clear hc HD HS;go_wp2
      go_roundw
      case rel=>exact ⟨pos+n,f,hit2,HE,by omega,hb2⟩
      case measure=>
       rw [HQ.out];simp only [World.iterPos,hit2];omega
  · have hnx:∀ ty,(Instr.next (.pointer (some ⟨w.heap.size,0,none⟩)) true ty).run Tryz.prog wr=_:=fun ty=>Lib.run_next_end_at wr w.heap.size s pos ty hit hp
    have HE:Hid ((rsF s s.size 0).contains g=false):=by
     unfold Hid;rw [← HD.out]
     cases fuel with
     | zero=>rfl
     | succ f=>rw [rsF,if_neg hp];rfl
    clear HD;go_wp2
    go_ret
    exact ⟨by rw [HE.out];rfl,hb⟩
theorem refIsMonadic_any (g:Int) (w:World):Calls Tryz.prog 12 #[.int .i32 g] w fun e w'=>e=.returned (.bool (([43,45,215,247,8968,8970,124,42,33,126]:List Int).contains g))∧Below w.heap.size w w':=by
 have HE:Hid (rsF (ByteArray.mk #[43,45,195,151,195,183,226,140,136,226,140,138,124,42,33,126]) (ByteArray.mk #[43,45,195,151,195,183,226,140,136,226,140,138,124,42,33,126]).size 0=[43,45,215,247,8968,8970,124,42,33,126]):=by unfold Hid;decide +kernel
 go_enter Tryz.func12,Tryz.ntmps12
 go_wp2_with fail
 refine (in_any _ _ _).mono ?_;rintro e w1 ⟨rfl,b1⟩;rw [HE.out];obtain ⟨B,hB⟩:∃ B,([43,45,215,247,8968,8970,124,42,33,126]:List Int).contains g=B:=⟨_,rfl⟩;have HB:Hid (([43,45,215,247,8968,8970,124,42,33,126]:List Int).contains g=B):=hB;rw [hB];clear hB;go_wp2
 go_ret
 exact ⟨by rw [HB.out];rfl,b1⟩
theorem refIsDyadic_any (g:Int) (w:World):Calls Tryz.prog 32 #[.int .i32 g] w fun e w'=>e=.returned (.bool (([43,45,215,247,8968,8970,124,42,33,60,8804,61,8805,62,8800,8743,8744,9074,9073]:List Int).contains g))∧Below w.heap.size w w':=by
 have HE:Hid (rsF (ByteArray.mk #[43,45,195,151,195,183,226,140,136,226,140,138,124,42,33,60,226,137,164,61,226,137,165,62,226,137,160,226,136,167,226,136,168,226,141,178,226,141,177]) (ByteArray.mk #[43,45,195,151,195,183,226,140,136,226,140,138,124,42,33,60,226,137,164,61,226,137,165,62,226,137,160,226,136,167,226,136,168,226,141,178,226,141,177]).size 0=[43,45,215,247,8968,8970,124,42,33,60,8804,61,8805,62,8800,8743,8744,9074,9073]):=by unfold Hid;decide +kernel
 go_enter Tryz.func32,Tryz.ntmps32
 go_wp2_with fail
 refine (in_any _ _ _).mono ?_;rintro e w1 ⟨rfl,b1⟩;rw [HE.out];obtain ⟨B,hB⟩:∃ B,([43,45,215,247,8968,8970,124,42,33,60,8804,61,8805,62,8800,8743,8744,9074,9073]:List Int).contains g=B:=⟨_,rfl⟩;have HB:Hid (([43,45,215,247,8968,8970,124,42,33,60,8804,61,8805,62,8800,8743,8744,9074,9073]:List Int).contains g=B):=hB;rw [hB];clear hB;go_wp2
 go_ret
 exact ⟨by rw [HB.out];rfl,b1⟩
end Go.Proofs.YtilbfkabfgnhpaaGreat
