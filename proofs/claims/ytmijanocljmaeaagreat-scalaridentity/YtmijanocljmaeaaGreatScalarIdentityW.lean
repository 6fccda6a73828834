/- ScalarIdentity: + of 0 and × of 1 change nothing of numbers. -/
import Derived.Test.YtmijanocljmaeaaGreatQ4
import Derived.Test.YtmijanocljmaeaaGreatQ5
import Derived.Test.YtmijanocljmaeaaGreatR5
import Derived.Test.YtmijanocljmaeaaGreatPT
set_option maxRecDepth 100000
set_option maxHeartbeats 1600000
set_option linter.unusedVariables false
set_option linter.unusedSimpArgs false
namespace Go.Proofs.YtmijanocljmaeaaGreat
open Go.RowKit
section
variable {v:World} {D:Nat→Prop} {f:Nat} {x1 x2:Option Addr} {n1 y1 n2 y2:Nat} {t:Tr} {er:Int} {U:Tr}
theorem id_ktM (hD:∀ g,D g→g<v.heap.size) (va:ArV f D v (.slice x1 n1 y1) (.slice x2 n2 y2) t) (he:monS sameM t=(er,U)) :
    Hid (∀ u (ds0:List Int) ea ec,Hid (ds0=[(1:Int)])→Rd u.heap.size u (.slice ea ds0.length ec) ds0→Below v.heap.size v u→Calls Tryz.prog 11 #[.agg #[.int .i64 1,.bool false,.slice none 0 0,.slice ea ds0.length ec,.int .i64 0],.int .i32 43,.agg #[.slice x1 n1 y1,.slice x2 n2 y2]] u fun e w'=>(∃ x5 n5 y5 b3 m d3,e=.returned (.tuple #[.agg #[.slice x5 n5 y5,.slice b3 m d3],.int .i64 er])∧OutR u.heap.size w' er U x5 n5 y5 b3 m d3)∧Below u.heap.size u w'):=by
 intro u ds0 ea ec hd hr k;have hd':ds0=[1]:=hd;subst hd';have DI:M5In D f u false none ea [] [1] 0 ec x1 x2 n1 y1 n2 y2 t:=⟨fun g h=>Nat.lt_of_lt_of_le (hD g h) k.size,va.agree (Agree.of k hD),(own_nilT 0 u).rd,hr,one_right9⟩;refine (monadic_same (io:=1) (pp:=0) DI).mono ?_;rintro e w' ⟨⟨x5,n5,y5,b3,m3,d3,rfl,h1,h2⟩,kb⟩;rw [he] at h1 h2 ⊢;exact ⟨⟨x5,n5,y5,b3,m3,d3,rfl,h1,h2⟩,kb⟩
theorem id_ktI (hD:∀ g,D g→g<v.heap.size) (va:ArV f D v (.slice x1 n1 y1) (.slice x2 n2 y2) t) (he:dyadS timesD t (arrT [] [wholeT 1])=(er,U)) :
    Hid (∀ u (ds0:List Int) ea ec ki,Hid (ds0=[(1:Int)])→Rd u.heap.size u (.slice ea ds0.length ec) ds0→ArV 1 (Fr v.heap.size u.heap.size) u (.slice none 0 0) (.slice (some ⟨ki,0,none⟩) 1 1) (arrT [] [wholeT 1])→Below v.heap.size v u→Calls Tryz.prog 7 #[.agg #[.int .i64 1,.bool false,.slice none 0 0,.slice ea ds0.length ec,.int .i64 0],.int .i32 215,.agg #[.slice x1 n1 y1,.slice x2 n2 y2],.agg #[.slice none 0 0,.slice (some ⟨ki,0,none⟩) 1 1]] u fun e w'=>(∃ x5 n5 y5 b3 m d3,e=.returned (.tuple #[.agg #[.slice x5 n5 y5,.slice b3 m d3],.int .i64 er])∧OutR u.heap.size w' er U x5 n5 y5 b3 m d3)∧Below u.heap.size u w'):=by
 intro u ds0 ea ec ki hd hr hi k;exact (turn_kt (v:=u) (D:=(· < u.heap.size)) (f:=f+1) turn_times (fun _ h=>h) (ArV.imp (fun q hq=>Nat.lt_of_lt_of_le (hD q hq) k.size) (Agree.of k hD) f (f+1) _ _ _ (by omega) va) (ArV.imp (fun q hq=>hq.2) (fun _ _=>rfl) 1 (f+1) _ _ _ (by omega) hi) he) u ds0 ea ec hd hr (Below.refl _ _)
theorem id_ktJ (hD:∀ g,D g→g<v.heap.size) (va:ArV f D v (.slice x1 n1 y1) (.slice x2 n2 y2) t) (he:dyadS plusD (arrT [] [wholeT 0]) t=(er,U)) :
    Hid (∀ u (ds0:List Int) ea ec ki,Hid (ds0=[(1:Int)])→Rd u.heap.size u (.slice ea ds0.length ec) ds0→ArV 1 (Fr v.heap.size u.heap.size) u (.slice none 0 0) (.slice (some ⟨ki,0,none⟩) 1 1) (arrT [] [wholeT 0])→Below v.heap.size v u→Calls Tryz.prog 7 #[.agg #[.int .i64 1,.bool false,.slice none 0 0,.slice ea ds0.length ec,.int .i64 0],.int .i32 43,.agg #[.slice none 0 0,.slice (some ⟨ki,0,none⟩) 1 1],.agg #[.slice x1 n1 y1,.slice x2 n2 y2]] u fun e w'=>(∃ x5 n5 y5 b3 m d3,e=.returned (.tuple #[.agg #[.slice x5 n5 y5,.slice b3 m d3],.int .i64 er])∧OutR u.heap.size w' er U x5 n5 y5 b3 m d3)∧Below u.heap.size u w'):=by
 intro u ds0 ea ec ki hd hr hi k;exact (turn_kt (v:=u) (D:=(· < u.heap.size)) (f:=f+1) turn_plus (fun _ h=>h) (ArV.imp (fun q hq=>hq.2) (fun _ _=>rfl) 1 (f+1) _ _ _ (by omega) hi) (ArV.imp (fun q hq=>Nat.lt_of_lt_of_le (hD q hq) k.size) (Agree.of k hD) f (f+1) _ _ _ (by omega) va) he) u ds0 ea ec hd hr (Below.refl _ _)
/-- Is what came the same as what was handed in? -/
theorem id_same {w:World} {Z:Nat} {w1:World} {a1 a2 b1 b2:Option Addr} {p1 q1 p2 q2 p3 q3 p4 q4:Nat} {P:Tr} (h1:ArV 16 (Fr Z w1.heap.size) w1 (.slice a1 p1 q1) (.slice a2 p2 q2) P) (k1:Below w1.heap.size w1 w) (hD:∀ g,D g→g<w.heap.size) (va:ArV f D w (.slice b1 p3 q3) (.slice b2 p4 q4) t) :
    Calls Tryz.prog 10 #[.agg #[.slice a1 p1 q1,.slice a2 p2 q2],.agg #[.slice b1 p3 q3,.slice b2 p4 q4]] w fun e w'=>AnsB e (eqR (f+16) P t)∧Below w.heap.size w w':=
 sameRX_all (f+16) (· < w.heap.size) w _ _ _ _ _ _ _ _ _ _ _ _ _ _ (fun _ h=>h) (ArV.imp (fun q hq=>Nat.lt_of_lt_of_le hq.2 k1.size) (Agree.of k1 (fun q hq=>hq.2)) 16 (f+16) _ _ _ (by omega) h1) (ArV.imp hD (fun _ _=>rfl) f (f+16) _ _ _ (by omega) va)
end
section
variable {w:World} {D:Nat→Prop} {f:Nat} {x1 x2:Option Addr} {n1 y1 n2 y2:Nat} {t:Tr}
theorem scalarIdentity_walk (hD:∀ g,D g→g<w.heap.size) (va:ArV f D w (.slice x1 n1 y1) (.slice x2 n2 y2) t) (hS:smF f t) :
    Calls Tryz.prog 5 #[.agg #[.slice x1 n1 y1,.slice x2 n2 y2]] w fun e w'=>e=.returned (.bool true)∧Below w.heap.size w w':=by
 have VA:Hid (ArV f D w (.slice x1 n1 y1) (.slice x2 n2 y2) t):=va;have HSM:Hid (smF f t):=hS;clear va hS;have k1:=below_alloc w (.cells #[.slice x1 n1 y1,.slice x2 n2 y2] 25);have BB:=boxA_new w #[.slice x1 n1 y1,.slice x2 n2 y2] 25;go_enter Tryz.func5,Tryz.ntmps5
 go_upto_region 1 with fail
 generalize hW:w.alloc (.cells #[.slice x1 n1 y1,.slice x2 n2 y2] 25)=v at *;clear hW;have g3:=k1;have hDv:∀ g,D g→g<v.heap.size:=fun g h=>Nat.lt_of_lt_of_le (hD g h) g3.size;have VA2:Hid (ArV f D v (.slice x1 n1 y1) (.slice x2 n2 y2) t):=VA.out.agree (Agree.of g3 hD);have sB:w.heap.size<v.heap.size:=BB.lt;clear k1 VA;obtain ⟨er,U,he⟩:∃ er U,dyadS plusD (arrT [] [wholeT 0]) t=(er,U):=⟨_,_,rfl⟩;have HE:Hid (dyadS plusD (arrT [] [wholeT 0]) t=(er,U)):=he;clear he;refine wp_region_noPanic ?_;refine id_1 (v:=v) (kk:=w.heap.size) (er:=er) (U:=U) (fun q=>⟨(BB.below q sB).cell 0 rfl,(BB.below q sB).cell 1 rfl⟩) (id_ktJ hDv VA2.out HE.out) ?hq1 (fun _ _ _ _ _ h=>h);intro A ds0 ea ec ki x5 n5 y5 b3 m d3 v2 BA nA HO ko;refine NoPanic.normal ?_;simp only [Exit.then];replace BB:=BB.below ko sB;replace g3:=g3.trans (ko.mono g3.size);have hDv2:∀ g,D g→g<v2.heap.size:=fun g h=>Nat.lt_of_lt_of_le (hDv g h) ko.size;replace VA2:Hid (ArV f D v2 (.slice x1 n1 y1) (.slice x2 n2 y2) t):=VA2.out.agree (Agree.of ko hDv);have sB2:w.heap.size<v2.heap.size:=BB.lt;clear ko nA hDv;obtain ⟨er2,U2,he2⟩:∃ er U,dyadS timesD t (arrT [] [wholeT 1])=(er,U):=⟨_,_,rfl⟩;have HE2:Hid (dyadS timesD t (arrT [] [wholeT 1])=(er2,U2)):=he2;clear he2
 go_upto_region 2 with fail
 refine wp_region_noPanic ?_;refine id_2 (v:=v2) (kk:=w.heap.size) (er:=er2) (U:=U2) (fun q=>⟨(BB.below q sB2).cell 0 rfl,(BB.below q sB2).cell 1 rfl⟩) (id_ktI hDv2 VA2.out HE2.out) ?hq2 (fun _ _ _ _ _ h=>h);intro A2 ds1 ea1 ec1 ki1 z5 m5 u5 z3 m6 u3 v3 BC nC HC ko;refine NoPanic.normal ?_;simp only [Exit.then];replace BB:=BB.below ko sB2;replace BA:=BA.below ko BA.lt;replace g3:=g3.trans (ko.mono g3.size);have hDv3:∀ g,D g→g<v3.heap.size:=fun g h=>Nat.lt_of_lt_of_le (hDv2 g h) ko.size;replace VA2:Hid (ArV f D v3 (.slice x1 n1 y1) (.slice x2 n2 y2) t):=VA2.out.agree (Agree.of ko hDv2);have sB3:w.heap.size<v3.heap.size:=BB.lt;have sA3:A<v3.heap.size:=BA.lt;clear nC hDv2 sB sB2;by_cases her:er=0
 · subst her
   obtain ⟨hR,hT⟩:=plus_fine (t:=t) (by rw [HE.out]);obtain ⟨p1,p2,p3,p4⟩:=same_told hR hT;have HR:Hid ((measF 16 t).isSome=true):=hR;have HT:Hid ((thruM sameM 16 t).1=0):=hT;obtain ⟨P,hP⟩:∃ P,(thruM sameM 16 t).2=P:=⟨_,rfl⟩;have HPe:Hid ((thruM sameM 16 t).2=P):=hP;rw [hP] at p1 p2 p3 p4;have eU:P=U:=congrArg Prod.snd (p1.symm.trans HE.out);have eq:=p2.symm.trans HE2.out;have e2:0=er2:=congrArg Prod.fst eq;have eU2:P=U2:=congrArg Prod.snd eq;subst eU eU2 e2;have HM:Hid (monS sameM t=(0,P)):=p3;have HP4:Hid ((measF 16 P).isSome=true):=p4;clear p1 p2 p3 p4 eq hR hT hP HE HE2
   go_upto_region 5 with fail
   refine wp_region_noPanic ?_;refine id_5 (v:=v3) (kk:=w.heap.size) (er:=0) (U:=P) (fun q=>⟨(BB.below q sB3).cell 0 rfl,(BB.below q sB3).cell 1 rfl⟩) (id_ktM hDv3 VA2.out HM.out) ?hq5 (fun _ _ _ _ _ h=>h);intro A3 ds2 ea2 ec2 q5 m7 u7 q3 m8 u8 v4 BE nE HE4 ko4;refine NoPanic.normal ?_;simp only [Exit.then];replace BB:=BB.below ko4 sB3;replace BA:=BA.below ko4 sA3;replace BC:=BC.below ko4 BC.lt;replace g3:=g3.trans (ko4.mono g3.size);have hDv4:∀ g,D g→g<v4.heap.size:=fun g h=>Nat.lt_of_lt_of_le (hDv3 g h) ko4.size;replace VA2:Hid (ArV f D v4 (.slice x1 n1 y1) (.slice x2 n2 y2) t):=VA2.out.agree (Agree.of ko4 hDv3);have k24:=ko.trans (ko4.mono ko.size);clear hDv3 sB3 sA3 nE HM ko;have sB4:w.heap.size<v4.heap.size:=BB.lt;have sA4:A<v4.heap.size:=BA.lt;have sC4:A2<v4.heap.size:=BC.lt;have sE4:A3<v4.heap.size:=BE.lt
   go_upto_region 6 with fail
   have HAr:Hid (∀ {w':World},Below v4.heap.size v4 w'→ArV f D w' (.slice x1 n1 y1) (.slice x2 n2 y2) t):=fun kk=>VA2.out.agree (Agree.of kk hDv4);have HDr:Hid (∀ {w':World},Below v4.heap.size v4 w'→∀ g,D g→g<w'.heap.size):=fun kk g h=>Nat.lt_of_lt_of_le (hDv4 g h) kk.size;have HCs:Hid (∀ {w':World},Below v4.heap.size v4 w'→w'.cell? ⟨w.heap.size,0,none⟩=some (.slice x1 n1 y1)∧w'.cell? ⟨w.heap.size,1,none⟩=some (.slice x2 n2 y2)∧w'.cell? ⟨A,0,none⟩=some (.slice x5 n5 y5)∧w'.cell? ⟨A,1,none⟩=some (.slice b3 m d3)∧w'.cell? ⟨A2,0,none⟩=some (.slice z5 m5 u5)∧w'.cell? ⟨A2,1,none⟩=some (.slice z3 m6 u3)∧w'.cell? ⟨A3,0,none⟩=some (.slice q5 m7 u7)∧w'.cell? ⟨A3,1,none⟩=some (.slice q3 m8 u8)):=fun kk=>
    ⟨(BB.below kk sB4).cell 0 rfl,(BB.below kk sB4).cell 1 rfl,(BA.below kk sA4).cell 0 rfl,(BA.below kk sA4).cell 1 rfl,(BC.below kk sC4).cell 0 rfl,(BC.below kk sC4).cell 1 rfl,(BE.below kk sE4).cell 0 rfl,(BE.below kk sE4).cell 1 rfl⟩
   have K1:Hid (∀ u,Below v4.heap.size v4 u→Calls Tryz.prog 10 #[.agg #[.slice x5 n5 y5,.slice b3 m d3],.agg #[.slice z5 m5 u5,.slice z3 m6 u3]] u fun e w'=>e=.returned (.bool true)∧Below u.heap.size u w'):=fun u kk=>outs_same HO.out HC.out (k24.trans (kk.mono k24.size)) (ko4.trans (kk.mono ko4.size));have K2:Hid (∀ u,Below v4.heap.size v4 u→Calls Tryz.prog 10 #[.agg #[.slice x5 n5 y5,.slice b3 m d3],.agg #[.slice q5 m7 u7,.slice q3 m8 u8]] u fun e w'=>e=.returned (.bool true)∧Below u.heap.size u w'):=fun u kk=>outs_same HO.out HE4.out (k24.trans (kk.mono k24.size)) kk;have KR:Hid (∀ u,Below v4.heap.size v4 u→Calls Tryz.prog 13 #[.agg #[.slice x5 n5 y5,.slice b3 m d3]] u fun e w'=>e=.returned (.bool true)∧Below u.heap.size u w'):=fun u kk=>by
    have hz:=((HO.out.1 rfl).agree (Agree.of (k24.trans (kk.mono k24.size)) (fun q hq=>hq.2))).mono (D':=(· < u.heap.size)) (fun q hq=>Nat.lt_of_lt_of_le hq.2 (k24.trans (kk.mono k24.size)).size);have CR:=right3_any (fun _ h=>h) hz;rw [HP4.out] at CR;exact CR
   by_cases hz:(sizeF t.ns).1=0
   · have KI:Hid (∀ u,Below v4.heap.size v4 u→Calls Tryz.prog 14 #[.agg #[.slice x1 n1 y1,.slice x2 n2 y2]] u fun e w'=>e=.returned (.slice none 0 0)∧Below u.heap.size u w'):=fun u kk=>by
      refine (refItems3_any (HDr.out kk) (HAr.out kk) HSM.out HR.out).mono ?_;rintro e w' ⟨hI,kI⟩;rcases hI with ⟨_,rfl⟩ | ⟨hn,_⟩
      · exact ⟨rfl,kI⟩
      · exact absurd hz hn
     refine wp_region_noPanic ?_;refine id_6E (v:=v4) HCs K1 K2 KR KI ?hqE (fun _ _ _ _ _ h=>h)
     case hqE=>
      intro a w' ha hdf hsz kk;refine NoPanic.normal ?_;simp only [Exit.then];go_wp2
      refine bodyPost_ret (v:=.bool true) ?_ hdf ?_
      · simp [results,Tryz.results5,go_sem,ha]
      exact ⟨rfl,g3.trans (kk.mono g3.size)⟩
   · have KI:Hid (∀ u,Below v4.heap.size v4 u→Calls Tryz.prog 14 #[.agg #[.slice x1 n1 y1,.slice x2 n2 y2]] u fun e w'=>(∃ zi ni ui,e=.returned (.slice zi ni ui)∧Hid ((((ni:Nat):Int)==0)=false))∧Below u.heap.size u w'):=fun u kk=>by
      refine (refItems3_any (HDr.out kk) (HAr.out kk) HSM.out HR.out).mono ?_;rintro e w' ⟨hI,kI⟩;rcases hI with ⟨h0,_⟩ | ⟨_,z1,i1,u1,z2,i2,u2,rfl,hrow⟩
      · exact absurd h0 hz
      · refine ⟨⟨_,_,_,rfl,?_⟩,kI⟩
        have hi2:i2=t.kids.length:=by
         obtain ⟨f,rfl⟩:∃ g,f=g+1:=by
          cases f with
          | zero=>exact hrow.elim
          | succ g=>exact ⟨g,rfl⟩
         exact hrow.2.len
        have hp:=meas_pos HR.out;show ((i2:Int)==0)=false;rw [beq_eq_false_iff_ne];omega
     by_cases ha:allNum t
     · have hs:eqR (f+16) P t:=by rw [← HPe.out];exact same_simple (f:=f+15) HR.out HT.out hz ha
       have KS:Hid (∀ u,Below v4.heap.size v4 u→Calls Tryz.prog 15 #[.agg #[.slice x1 n1 y1,.slice x2 n2 y2]] u fun e w'=>e=.returned (.bool true)∧Below u.heap.size u w'):=fun u kk=>by
        refine (simple5_any (HDr.out kk) (HAr.out kk)).mono ?_;rintro e w' ⟨⟨β,rfl,hβ⟩,kI⟩
        cases β with
        | true=>exact ⟨rfl,kI⟩
        | false=>exact absurd (hβ.out.2 ha) (by decide)
       have KP:Hid (∀ u,Below v4.heap.size v4 u→Calls Tryz.prog 10 #[.agg #[.slice x5 n5 y5,.slice b3 m d3],.agg #[.slice x1 n1 y1,.slice x2 n2 y2]] u fun e w'=>e=.returned (.bool true)∧Below u.heap.size u w'):=fun u kk=>by
        refine (id_same (HO.out.1 rfl) (k24.trans (kk.mono k24.size)) (HDr.out kk) (HAr.out kk)).mono ?_;rintro e w' ⟨⟨γ,rfl,hγ⟩,kI⟩
        cases γ with
        | true=>exact ⟨rfl,kI⟩
        | false=>exact absurd (hγ.out.2 hs) (by decide)
       refine wp_region_noPanic ?_;refine id_6S (v:=v4) (b:=true) HCs K1 K2 KR KI KS KP ?hqT (fun _ _ _ _ _ h=>h)
       case hqT=>
        intro a w' ha hdf hsz kk;refine NoPanic.normal ?_;simp only [Exit.then];go_wp2
        refine bodyPost_ret (v:=.bool true) ?_ hdf ?_
        · simp [results,Tryz.results5,go_sem,ha]
        exact ⟨rfl,g3.trans (kk.mono g3.size)⟩
     · have KS:Hid (∀ u,Below v4.heap.size v4 u→Calls Tryz.prog 15 #[.agg #[.slice x1 n1 y1,.slice x2 n2 y2]] u fun e w'=>e=.returned (.bool false)∧Below u.heap.size u w'):=fun u kk=>by
        refine (simple5_any (HDr.out kk) (HAr.out kk)).mono ?_;rintro e w' ⟨⟨β,rfl,hβ⟩,kI⟩
        cases β with
        | false=>exact ⟨rfl,kI⟩
        | true=>exact absurd (hβ.out.1 rfl) ha
       by_cases hs:eqR (f+16) P t
       · have KP:Hid (∀ u,Below v4.heap.size v4 u→Calls Tryz.prog 10 #[.agg #[.slice x5 n5 y5,.slice b3 m d3],.agg #[.slice x1 n1 y1,.slice x2 n2 y2]] u fun e w'=>e=.returned (.bool true)∧Below u.heap.size u w'):=fun u kk=>by
          refine (id_same (HO.out.1 rfl) (k24.trans (kk.mono k24.size)) (HDr.out kk) (HAr.out kk)).mono ?_;rintro e w' ⟨⟨γ,rfl,hγ⟩,kI⟩
          cases γ with
          | true=>exact ⟨rfl,kI⟩
          | false=>exact absurd (hγ.out.2 hs) (by decide)
         refine wp_region_noPanic ?_;refine id_6N (v:=v4) HCs K1 K2 KR KI KS KP ?hqN (fun _ _ _ _ _ h=>h)
         case hqN=>
          intro a w' ha hdf hsz kk;refine NoPanic.normal ?_;simp only [Exit.then];go_wp2
          refine bodyPost_ret (v:=.bool true) ?_ hdf ?_
          · simp [results,Tryz.results5,go_sem,ha]
          exact ⟨rfl,g3.trans (kk.mono g3.size)⟩
       · have KP:Hid (∀ u,Below v4.heap.size v4 u→Calls Tryz.prog 10 #[.agg #[.slice x5 n5 y5,.slice b3 m d3],.agg #[.slice x1 n1 y1,.slice x2 n2 y2]] u fun e w'=>e=.returned (.bool false)∧Below u.heap.size u w'):=fun u kk=>by
          refine (id_same (HO.out.1 rfl) (k24.trans (kk.mono k24.size)) (HDr.out kk) (HAr.out kk)).mono ?_;rintro e w' ⟨⟨γ,rfl,hγ⟩,kI⟩
          cases γ with
          | false=>exact ⟨rfl,kI⟩
          | true=>exact absurd (hγ.out.1 rfl) hs
         refine wp_region_noPanic ?_;refine id_6S (v:=v4) (b:=false) HCs K1 K2 KR KI KS KP ?hqS (fun _ _ _ _ _ h=>h)
         case hqS=>
          intro a w' ha hdf hsz kk;refine NoPanic.normal ?_;simp only [Exit.then];go_wp2
          refine bodyPost_ret (v:=.bool true) ?_ hdf ?_
          · simp [results,Tryz.results5,go_sem,ha]
          exact ⟨rfl,g3.trans (kk.mono g3.size)⟩
 · have her2:¬ er2=0:=fun h=>her (by
    obtain ⟨hR,hT⟩:=times_fine (t:=t) (by rw [HE2.out];exact h);exact congrArg Prod.fst (HE.out.symm.trans (same_told hR hT).1))
   clear HO HE HC HE2 VA2 BB sB3 BA BC sA3 hDv3
   go_wp2_with fail
   refine (live5_ok _).mono ?_;rintro e wL ⟨rfl,kL⟩;replace g3:=g3.trans (kL.mono g3.size);go_wp2
   go_ret
   exact ⟨by simp [her2],g3⟩
end
end Go.Proofs.YtmijanocljmaeaaGreat
