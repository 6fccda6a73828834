/- pairing.items and pairing.through of any two right arrays, to any depth. -/
import Derived.Test.YtmijanocljmaeaaGreatP4
import Derived.Test.YtmijanocljmaeaaGreatM3
set_option maxRecDepth 100000
set_option maxHeartbeats 32000000
set_option linter.unusedVariables false
set_option linter.unusedSimpArgs false
namespace Go.Proofs.YtmijanocljmaeaaGreat
open Go.RowKit
theorem tr_num {x:Tr} (hk:x.k=1) (hc:x.c=0) (h0:x.kids.length=0):numT x.b x.ns x.ds=x:=by
 obtain ⟨k,b,ns,ds,c,l⟩:=x;have hk:k=1:=hk;have hc:c=0:=hc;have h1:l=[]:=List.eq_nil_of_length_eq_zero h0;subst hk hc h1;rfl
theorem itemS_box {d:Dy} {K L c:Nat} {x y:Tr} (h:x.k=3∨y.k=3):itemS (thruS d K L) d K c x y=boxS d K L c (openS x) (openS y):=by
 unfold itemS boxS;rw [if_pos h]
theorem itemS_num {rec:Nat→Tr→Tr→List Int→Int×Nat×Tr} {d:Dy} {K c:Nat} {x y:Tr} (hx:x.k=1) (hy:y.k=1):itemS rec d K c x y=numItem (numS d K c x y) c:=by
 unfold itemS numItem;rw [if_neg (by omega),if_pos ⟨hx,hy⟩]
theorem itemS_no {rec:Nat→Tr→Tr→List Int→Int×Nat×Tr} {d:Dy} {K c:Nat} {x y:Tr} (hk:(x.k=2∧(y.k=1∨y.k=2))∨(x.k=1∧y.k=2)) (h1:d.gl≠61) (h2:d.gl≠8800):itemS rec d K c x y=(3,c,tr0):=by
 unfold itemS;rw [if_neg (by omega),if_neg (by omega),if_neg (by omega)]
theorem itemS_eq {rec:Nat→Tr→Tr→List Int→Int×Nat×Tr} {d:Dy} {K c:Nat} {x y:Tr} (hk:(x.k=2∧(y.k=1∨y.k=2))∨(x.k=1∧y.k=2)) (h1:d.gl=61∨d.gl=8800):itemS rec d K c x y=(0,c,alikeS d.gl x y):=by
 unfold itemS;rw [if_neg (by omega),if_neg (by omega),if_pos h1]
theorem numItem_c (r:Int×Tr) (c:Nat):(numItem r c).2.1=c:=by
 unfold numItem
 split <;> rfl
section
variable {d:Dy} {K kf:Nat} {caps:Array Value} {p:Nat} {w0:World}
theorem items5_step (HU:Hid (UnOK d)) (HD:Hid (DoOK d kf caps p w0)) (hgl:d.gl≠42∧d.gl≠33) (L:Nat) (hT:∀ L',L=L'+1→ThruOK d K kf caps p w0 L'):ItemsOK d K kf caps p w0 L:=by
 intro f D w gx ox gy oy c x y k00 hD hDp hX hY hc P0;have lx:=hD gx hX.hg;have ly:=hD gy hY.hg;have lp:=P0.lt;have hbox:(x.k=3∨y.k=3)→∃ L',L=L'+1:=by
  rintro (h | h)
  · rcases measI_cases hX.ok with ⟨e,_⟩ | ⟨e,_⟩ | ⟨_,_,_,_,_,hM⟩
    · omega
    · omega
    · obtain ⟨L',e,_⟩:=measF_some hM;exact ⟨L',e⟩
  · rcases measI_cases hY.ok with ⟨e,_⟩ | ⟨e,_⟩ | ⟨_,_,_,_,_,hM⟩
    · omega
    · omega
    · obtain ⟨L',e,_⟩:=measF_some hM;exact ⟨L',e⟩
 by_cases h3:x.k=3∨y.k=3
 · obtain ⟨L',rfl⟩:=hbox h3
   rw [itemS_box h3];exact items5_box (hT L' rfl) k00 hD hDp hX hY h3 hc P0
 clear hbox;obtain ⟨a1,c1,a2,c2,a3,c3,⟨e0,e1,e2,e3,e4,_⟩,hv⟩:=hX.lies;obtain ⟨b1,d1,b2,d2,b3,d3,⟨g0,g1,g2,g3,g4,_⟩,hu⟩:=hY.lies;by_cases h1:x.k=1∧y.k=1
 · obtain ⟨rx,cx,zx⟩:RightP x.b x.ns x.ds∧x.c=0∧x.kids.length=0:=by
    rcases measI_cases hX.ok with ⟨_,h⟩ | ⟨e,_⟩ | ⟨e,_⟩
    · exact h
    · omega
    · omega
   obtain ⟨ry,cy,zy⟩:RightP y.b y.ns y.ds∧y.c=0∧y.kids.length=0:=by
    rcases measI_cases hY.ok with ⟨_,h⟩ | ⟨e,_⟩ | ⟨e,_⟩
    · exact h
    · omega
    · omega
   rw [itemS_num h1.1 h1.2,numItem_c];rw [h1.1] at e0;rw [h1.2] at g0;refine (items5_num (K:=K) (L:=L) (c:=c) (r:=numS d K c x y) lx ly lp ⟨e0,e1,e2,e3,g0,g1,g2,g3⟩ ?_).mono ?_
   · intro v' hb
     have h:=numbers5_any (K:=K) (c:=c) HU HD hgl (k00.trans (Kp.of_below hb)) (P0.below hb lp) rx ry (((hv.rn.rd hD).below hb).mono hb.size) (((hv.rd.rd hD).below hb).mono hb.size) (((hu.rn.rd hD).below hb).mono hb.size) (((hu.rd.rd hD).below hb).mono hb.size);rw [tr_num h1.1 cx zx,tr_num h1.2 cy zy] at h;exact h
   · rintro e w' ⟨hr,hb⟩
     exact ⟨hr,Kp.of_below hb,P0.below hb lp⟩
 have hk:(x.k=2∧(y.k=1∨y.k=2))∨(x.k=1∧y.k=2):=by
  have hx:=measI_cases hX.ok;have hy:=measI_cases hY.ok;rcases hx with ⟨hx,_⟩ | ⟨hx,_⟩ | ⟨hx,_⟩ <;> rcases hy with ⟨hy,_⟩ | ⟨hy,_⟩ | ⟨hy,_⟩ <;> omega
 by_cases hg:d.gl=61∨d.gl=8800
 · rw [itemS_eq hk hg]
   refine (items5_eq (L:=L) (B:=(decide (x.k=y.k) && decide (x.c=y.c))==decide (d.gl=61)) lx ly P0 ⟨e0,e4⟩ ⟨g0,g4⟩ hk hg rfl).mono ?_;rintro e w' ⟨hr,hb⟩;exact ⟨hr,Kp.of_below hb,P0.below hb lp⟩
 · rw [itemS_no hk (by omega) (by omega)]
   refine (items5_no (L:=L) lx ly P0 e0 g0 hk (by omega) (by omega)).mono ?_;rintro e w' ⟨hr,hb⟩;exact ⟨hr,Kp.of_below hb,P0.below hb lp⟩
/-- All levels. -/
theorem thru5_levels (HU:Hid (UnOK d)) (HD:Hid (DoOK d kf caps p w0)) (hgl:d.gl≠42∧d.gl≠33) (hK:K≤16384):∀ L,ThruOK d K kf caps p w0 L
 | 0=>through5_all hK (items5_step HU HD hgl 0 (fun L' h=>by omega))
 | L+1=>through5_all hK (items5_step HU HD hgl (L+1) (fun L' h=>by
     obtain rfl:L'=L:=by omega
     exact thru5_levels HU HD hgl hK L'))
end
/-- The same glyph, only looked at. -/
def lookD (d:Dy):Dy:=⟨d.gl,d.no,unS d⟩
section
variable {d:Dy} {gw p:Nat} {w0:World}
theorem doOK_look (HU:Hid (UnOK d)) (hg:w0.cell? ⟨gw,0,none⟩=some (.int .i32 d.gl)) (hp:gw≠p):DoOK (lookD d) 40 #[.pointer (some ⟨gw,0,none⟩)] p w0:=by
 refine ⟨?_,enterB Tryz.func40 (by kernel_rfl) (by kernel_rfl)⟩;intro v k0 bx cy a1 a2 a3 a4 xn xd yn yd c1 c2 c3 c4 rx ry h1 h2 h3 h4;show Calls Tryz.prog 40 #[.agg #[.bool bx,.slice a1 xn.length c1,.slice a2 xd.length c2],.agg #[.bool cy,.slice a3 yn.length c3,.slice a4 yd.length c4],.pointer (some ⟨gw,0,none⟩)] v fun e w'=>NumR5 v.heap.size (unS d (numT bx xn xd) (numT cy yn yd)) e w'∧Below v.heap.size v w';have hgv:=k0.cell hp hg;have lg:=lt_of_cellT hgv;have k1:=below_alloc v (.cells #[.bool bx,.slice a1 xn.length c1,.slice a2 xd.length c2] 33);have k2:=below_alloc (v.alloc (.cells #[.bool bx,.slice a1 xn.length c1,.slice a2 xd.length c2] 33)) (.cells #[.bool cy,.slice a3 yn.length c3,.slice a4 yd.length c4] 33);have k3:=below_alloc ((v.alloc (.cells #[.bool bx,.slice a1 xn.length c1,.slice a2 xd.length c2] 33)).alloc (.cells #[.bool cy,.slice a3 yn.length c3,.slice a4 yd.length c4] 33)) (.cells #[.bool false,.slice none 0 0,.slice none 0 0] 33);have k23:Below (v.alloc (.cells #[.bool bx,.slice a1 xn.length c1,.slice a2 xd.length c2] 33)).heap.size (v.alloc (.cells #[.bool bx,.slice a1 xn.length c1,.slice a2 xd.length c2] 33)) (((v.alloc (.cells #[.bool bx,.slice a1 xn.length c1,.slice a2 xd.length c2] 33)).alloc (.cells #[.bool cy,.slice a3 yn.length c3,.slice a4 yd.length c4] 33)).alloc (.cells #[.bool false,.slice none 0 0,.slice none 0 0] 33)):=k2.trans (k3.mono (by simp));have XB:=(boxA_new v #[.bool bx,.slice a1 xn.length c1,.slice a2 xd.length c2] 33).below k23 (by simp);have YB:=(boxA_new (v.alloc (.cells #[.bool bx,.slice a1 xn.length c1,.slice a2 xd.length c2] 33)) #[.bool cy,.slice a3 yn.length c3,.slice a4 yd.length c4] 33).below k3 (by simp);have RB:=boxA_new ((v.alloc (.cells #[.bool bx,.slice a1 xn.length c1,.slice a2 xd.length c2] 33)).alloc (.cells #[.bool cy,.slice a3 yn.length c3,.slice a4 yd.length c4] 33)) #[.bool false,.slice none 0 0,.slice none 0 0] 33;rw [World.size_alloc] at YB;have sz:((v.alloc (.cells #[.bool bx,.slice a1 xn.length c1,.slice a2 xd.length c2] 33)).alloc (.cells #[.bool cy,.slice a3 yn.length c3,.slice a4 yd.length c4] 33)).heap.size=v.heap.size+1+1:=by simp
 rw [sz] at RB;have g:Below v.heap.size v (((v.alloc (.cells #[.bool bx,.slice a1 xn.length c1,.slice a2 xd.length c2] 33)).alloc (.cells #[.bool cy,.slice a3 yn.length c3,.slice a4 yd.length c4] 33)).alloc (.cells #[.bool false,.slice none 0 0,.slice none 0 0] 33)):=k1.trans (k23.mono (by simp));have sz3:v.heap.size+1+1<(((v.alloc (.cells #[.bool bx,.slice a1 xn.length c1,.slice a2 xd.length c2] 33)).alloc (.cells #[.bool cy,.slice a3 yn.length c3,.slice a4 yd.length c4] 33)).alloc (.cells #[.bool false,.slice none 0 0,.slice none 0 0] 33)).heap.size:=by simp
 obtain ⟨er,hER⟩:∃ er,(unS d (numT bx xn xd) (numT cy yn yd)).1=er:=⟨_,rfl⟩;have C1:=HU.out (((v.alloc (.cells #[.bool bx,.slice a1 xn.length c1,.slice a2 xd.length c2] 33)).alloc (.cells #[.bool cy,.slice a3 yn.length c3,.slice a4 yd.length c4] 33)).alloc (.cells #[.bool false,.slice none 0 0,.slice none 0 0] 33)) bx cy a1 a2 a3 a4 xn xd yn yd c1 c2 c3 c4 rx ry ((h1.below g).mono g.size) ((h2.below g).mono g.size) ((h3.below g).mono g.size) ((h4.below g).mono g.size);unfold NumR5 at C1 ⊢;rw [hER] at C1 ⊢;have HC1:Hid (Calls Tryz.prog 41 _ (((v.alloc (.cells #[.bool bx,.slice a1 xn.length c1,.slice a2 xd.length c2] 33)).alloc (.cells #[.bool cy,.slice a3 yn.length c3,.slice a4 yd.length c4] 33)).alloc (.cells #[.bool false,.slice none 0 0,.slice none 0 0] 33)) _):=C1;have z0:=(g.cell (p:=⟨gw,0,none⟩) lg).trans hgv;clear k1 k2 k3 k23 sz h1 h2 h3 h4 rx ry C1 hgv k0 hg hER;have x0:=XB.cell 0 rfl;have x1:=XB.cell 1 rfl;have x2:=XB.cell 2 rfl;have y0:=YB.cell 0 rfl;have y1:=YB.cell 1 rfl;have y2:=YB.cell 2 rfl;go_enter Tryz.func40,Tryz.ntmps40
 go_wp2_with fail
 generalize hA:(((v.alloc (.cells #[.bool bx,.slice a1 xn.length c1,.slice a2 xd.length c2] 33)).alloc (.cells #[.bool cy,.slice a3 yn.length c3,.slice a4 yd.length c4] 33)).alloc (.cells #[.bool false,.slice none 0 0,.slice none 0 0] 33))=u at *;clear hA x0 x1 x2 y0 y1 y2 z0;refine HC1.out.mono ?_;rintro e w2 ⟨⟨b,z1,ns,u1,z2,ds,u2,rfl,ho1,ho2,hT⟩,q2⟩;have s2:=q2.size;have R2:=RB.below q2 (by omega);have r0:=R2.cell 0 rfl;have r1:=R2.cell 1 rfl;have r2:=R2.cell 2 rfl;have f0:=R2.frozen 0;have f1:=R2.frozen 1;have f2:=R2.frozen 2;have R3:=((R2.put 0 (.bool b)).put 1 (.slice z1 ns.length u1)).put 2 (.slice z2 ds.length u2);have j0:=R3.cell 0 rfl;have j1:=R3.cell 1 rfl;have j2:=R3.cell 2 rfl;go_wp2
 refine bodyPost_ret (v:=.tuple #[.agg #[.bool b,.slice z1 ns.length u1,.slice z2 ds.length u2],.int .i64 er]) (by simp [results,Tryz.results40,go_sem,j0,j1,j2]) rfl ?_;exact ⟨⟨b,z1,ns,u1,z2,ds,u2,rfl,(ho1.set3 (by omega) _ _ _).mono (by omega),(ho2.set3 (by omega) _ _ _).mono (by omega),hT⟩,Below.set3 (g.trans (q2.mono g.size)) (by omega) _ _ _⟩
end
/-- What whole tells of two arrays: an error, or the array. -/
def wholeS (d:Dy) (L:Nat) (a b:Tr) (sh:List Int):Int×Tr:=
 if (thruS (lookD d) 0 (L+1) 0 a b sh).1=8 then (8,tr0) else ((thruS d 16384 (L+1) 0 a b sh).1,(thruS d 16384 (L+1) 0 a b sh).2.2)
/-- An array that is told, or an error. -/
def WhR (Z L:Nat) (r:Int×Tr) (e:Ending) (w':World):Prop:=∃ x5 n5 y5 b3 m3 d3,e=.returned (.tuple #[.agg #[.slice x5 n5 y5,.slice b3 m3 d3],.int .i64 r.1])∧Hid (r.1=0→ArV (L+1) (Fr Z w'.heap.size) w' (.slice x5 n5 y5) (.slice b3 m3 d3) r.2)∧Hid (r.1≠0→x5=none∧n5=0∧y5=0∧b3=none∧m3=0∧d3=0)
theorem ThIn.to {f:Nat} {D:Nat→Prop} {w w':World} {p q b L:Nat} {a:Option Addr} {c:Nat} {t:Tr} (h:ThIn f D w p b L a c t) (k:Below w.heap.size w w') (hD:∀ g,D g→g<w.heap.size) (hq:w.heap.size≤q):ThIn f D w' q b L a c t:=by
 have hl:=lt_of_cellT h.ca;have h':=h.agree (Agree.of k hD) (k.cell (p:=⟨b,1,none⟩) hl);exact ⟨h'.ca,h'.row,h'.pos,h'.ok,by omega⟩
section
variable {d:Dy} {kf:Nat} {caps:Array Value} {w:World} {f:Nat} {D:Nat→Prop} {L ba bb:Nat} {aA aB x1:Option Addr} {cA cB y1:Nat} {a b:Tr} {sh:List Int}
theorem whole5_any (HU:Hid (UnOK d)) (hgl:d.gl≠42∧d.gl≠33) (HDo:Hid (∀ p v,Below w.heap.size w v→w.heap.size≤p→DoOK d kf caps p v)) (hL:L≤1000) (hD:∀ g,D g→g<w.heap.size) (hA:ThIn f D w w.heap.size ba L aA cA a) (hB:ThIn f D w w.heap.size bb L aB cB b) (hsh:RdN D w (.slice x1 sh.length y1) sh) (hs2:(sizeF sh).2=0) :
    Calls Tryz.prog 20 #[.int .i32 d.gl,.func (.func kf) #[] caps,.slice x1 sh.length y1,.func (.func 43) #[] #[.pointer (some ⟨ba,0,none⟩),.pointer (some ⟨bb,0,none⟩)]] w fun e w'=>WhR w.heap.size L (wholeS d L a b sh) e w'∧Below w.heap.size w w':=by
 have k1:=below_alloc w (.cells #[.int .i32 d.gl] 21);have k2:=below_alloc (w.alloc (.cells #[.int .i32 d.gl] 21)) (.cells #[.slice none 0 0,.slice none 0 0] 25);have k3:=below_alloc ((w.alloc (.cells #[.int .i32 d.gl] 21)).alloc (.cells #[.slice none 0 0,.slice none 0 0] 25)) (.cells #[.int .i32 d.gl,.func (.func 40) #[] #[.pointer (some ⟨w.heap.size,0,none⟩)],.int .i64 0,.int .i64 0] 90);have k23:Below (w.alloc (.cells #[.int .i32 d.gl] 21)).heap.size (w.alloc (.cells #[.int .i32 d.gl] 21)) (((w.alloc (.cells #[.int .i32 d.gl] 21)).alloc (.cells #[.slice none 0 0,.slice none 0 0] 25)).alloc (.cells #[.int .i32 d.gl,.func (.func 40) #[] #[.pointer (some ⟨w.heap.size,0,none⟩)],.int .i64 0,.int .i64 0] 90)):=k2.trans (k3.mono (by simp));have g:Below w.heap.size w (((w.alloc (.cells #[.int .i32 d.gl] 21)).alloc (.cells #[.slice none 0 0,.slice none 0 0] 25)).alloc (.cells #[.int .i32 d.gl,.func (.func 40) #[] #[.pointer (some ⟨w.heap.size,0,none⟩)],.int .i64 0,.int .i64 0] 90)):=k1.trans (k23.mono (by simp));have Gl:=(boxA_new w #[.int .i32 d.gl] 21).below k23 (by simp);have R:=(boxA_new (w.alloc (.cells #[.int .i32 d.gl] 21)) #[.slice none 0 0,.slice none 0 0] 25).below k3 (by simp);have Pl:=boxA_new ((w.alloc (.cells #[.int .i32 d.gl] 21)).alloc (.cells #[.slice none 0 0,.slice none 0 0] 25)) #[.int .i32 d.gl,.func (.func 40) #[] #[.pointer (some ⟨w.heap.size,0,none⟩)],.int .i64 0,.int .i64 0] 90;have sz2:((w.alloc (.cells #[.int .i32 d.gl] 21)).alloc (.cells #[.slice none 0 0,.slice none 0 0] 25)).heap.size=w.heap.size+1+1:=by simp
 have sz3:(((w.alloc (.cells #[.int .i32 d.gl] 21)).alloc (.cells #[.slice none 0 0,.slice none 0 0] 25)).alloc (.cells #[.int .i32 d.gl,.func (.func 40) #[] #[.pointer (some ⟨w.heap.size,0,none⟩)],.int .i64 0,.int .i64 0] 90)).heap.size=w.heap.size+1+1+1:=by simp
 rw [World.size_alloc] at R;rw [sz2] at Pl;have HDL:Hid (DoOK (lookD d) 40 #[.pointer (some ⟨w.heap.size,0,none⟩)] (w.heap.size+1+1) (((w.alloc (.cells #[.int .i32 d.gl] 21)).alloc (.cells #[.slice none 0 0,.slice none 0 0] 25)).alloc (.cells #[.int .i32 d.gl,.func (.func 40) #[] #[.pointer (some ⟨w.heap.size,0,none⟩)],.int .i64 0,.int .i64 0] 90))):=doOK_look HU (Gl.cell 0 rfl) (by omega);have HUL:Hid (UnOK (lookD d)):=HU.out;have C1:=thru5_levels (K:=0) HUL HDL hgl (by omega) L f D (((w.alloc (.cells #[.int .i32 d.gl] 21)).alloc (.cells #[.slice none 0 0,.slice none 0 0] 25)).alloc (.cells #[.int .i32 d.gl,.func (.func 40) #[] #[.pointer (some ⟨w.heap.size,0,none⟩)],.int .i64 0,.int .i64 0] 90)) ba bb 0 aA cA aB cB a b x1 y1 sh (Kp.refl _ _) (fun q hq=>by have:=hD q hq;omega) (fun q hq=>by have:=hD q hq;omega) (hA.to g hD (by omega)) (hB.to g hD (by omega)) (hsh.imp (fun _ h=>h) (Agree.of g hD)) hs2 (by omega) Pl;obtain ⟨rl,hrl⟩:∃ r,thruS (lookD d) 0 (L+1) 0 a b sh=r:=⟨_,rfl⟩;have HW:Hid (wholeS d L a b sh=if rl.1=8 then (8,tr0) else ((thruS d 16384 (L+1) 0 a b sh).1,(thruS d 16384 (L+1) 0 a b sh).2.2)):=by unfold Hid wholeS;rw [hrl]
 rw [hrl] at C1;clear hrl;have HD:Hid (∀ g,D g→g<w.heap.size):=hD;have HA:Hid (ThIn f D w w.heap.size ba L aA cA a):=hA;have HB:Hid (ThIn f D w w.heap.size bb L aB cB b):=hB;have HSH:Hid (RdN D w (.slice x1 sh.length y1) sh):=hsh;have HS2:Hid ((sizeF sh).2=0):=hs2;have HL:Hid (L≤1000):=hL;clear hD hA hB hsh hs2 k1 k2 k3 k23 hL;have g0:=Gl.cell 0 rfl;have hb1:(Instr.build 90 #[(0,.int .i32 d.gl),(1,.func (.func 40) #[] #[.pointer (some ⟨w.heap.size,0,none⟩)])]).run Tryz.prog ((w.alloc (.cells #[.int .i32 d.gl] 21)).alloc (.cells #[.slice none 0 0,.slice none 0 0] 25))=.ok (.agg #[.int .i32 d.gl,.func (.func 40) #[] #[.pointer (some ⟨w.heap.size,0,none⟩)],.int .i64 0,.int .i64 0]) ((w.alloc (.cells #[.int .i32 d.gl] 21)).alloc (.cells #[.slice none 0 0,.slice none 0 0] 25)):=by kernel_rfl
 have hst:=@run_storeF Tryz.prog;go_enter Tryz.func20,Tryz.ntmps20
 go_wp2_with fail
 clear g0 hb1;generalize hA3:(((w.alloc (.cells #[.int .i32 d.gl] 21)).alloc (.cells #[.slice none 0 0,.slice none 0 0] 25)).alloc (.cells #[.int .i32 d.gl,.func (.func 40) #[] #[.pointer (some ⟨w.heap.size,0,none⟩)],.int .i64 0,.int .i64 0] 90))=v at *;clear hA3;refine C1.mono ?_;rintro e w4 ⟨⟨x6,n6,y6,b6,m6,d6,rfl,_,_⟩,k4,_⟩;clear C1;have s4:=k4.size;have kb4:Below w.heap.size w w4:=g.trans (k4.below (by omega) (by omega));have G4:=kp_box k4 Gl (by omega);have R4:=kp_box k4 R (by omega);have lR4:=R4.lt;have k5:=below_alloc w4 (.cells #[.slice x6 n6 y6,.slice b6 m6 d6] 25);have G5:=G4.below k5 G4.lt;have R5:=R4.below k5 lR4;have sz5:(w4.alloc (.cells #[.slice x6 n6 y6,.slice b6 m6 d6] 25)).heap.size=w4.heap.size+1:=by simp
 have kb5:Below w.heap.size w (w4.alloc (.cells #[.slice x6 n6 y6,.slice b6 m6 d6] 25)):=kb4.trans (k5.mono (by omega));obtain ⟨er,c2,T2⟩:=rl
 go_upto_region 3 with fail
 generalize hA5:w4.alloc (.cells #[.slice x6 n6 y6,.slice b6 m6 d6] 25)=w5 at *;clear hA5;have sz5a:w4.heap.size<w5.heap.size:=by omega
 clear sz5;by_cases her:er=8
 · subst her
   have HW2:Hid (wholeS d L a b sh=(8,tr0)):=by rw [HW.out];exact if_pos rfl
   have r0:=R5.cell 0 rfl;have r1:=R5.cell 1 rfl;have f0:=R5.frozen 0;have f1:=R5.frozen 1;have Q:=boxA_s1 (boxA_s0 R5 (.slice none 0 0)) (.slice none 0 0);have j0:=Q.cell 0 rfl;have j1:=Q.cell 1 rfl;go_wp2
   refine bodyPost_ret (v:=.tuple #[.agg #[.slice none 0 0,.slice none 0 0],.int .i64 8]) (by simp [results,Tryz.results20,go_sem,j0,j1]) rfl ?_;rw [HW2.out];exact ⟨⟨none,0,0,none,0,0,rfl,(fun h=>by cases h),fun _=>⟨rfl,rfl,rfl,rfl,rfl,rfl⟩⟩,Below.set2 kb5 (by omega) _ _⟩
 · have hne:(er==8)=false:=by rw [beq_eq_false_iff_ne];exact her
   have HW2:Hid (wholeS d L a b sh=((thruS d 16384 (L+1) 0 a b sh).1,(thruS d 16384 (L+1) 0 a b sh).2.2)):=by rw [HW.out];exact if_neg her
   clear her;have k6:=below_alloc w5 (.cells #[.int .i32 d.gl,.func (.func kf) #[] caps,.int .i64 0,.int .i64 16384] 90);have Pw:=boxA_new w5 #[.int .i32 d.gl,.func (.func kf) #[] caps,.int .i64 0,.int .i64 16384] 90;have kb6:Below w.heap.size w (w5.alloc (.cells #[.int .i32 d.gl,.func (.func kf) #[] caps,.int .i64 0,.int .i64 16384] 90)):=kb5.trans (k6.mono (by omega));have R6:=R5.below k6 (by omega);have sz6:(w5.alloc (.cells #[.int .i32 d.gl,.func (.func kf) #[] caps,.int .i64 0,.int .i64 16384] 90)).heap.size=w5.heap.size+1:=by simp
   have HDW:Hid (DoOK d kf caps w5.heap.size (w5.alloc (.cells #[.int .i32 d.gl,.func (.func kf) #[] caps,.int .i64 0,.int .i64 16384] 90))):=HDo.out _ _ kb6 (by omega);have C2:=thru5_levels (K:=16384) HU HDW hgl (Nat.le_refl _) L f D (w5.alloc (.cells #[.int .i32 d.gl,.func (.func kf) #[] caps,.int .i64 0,.int .i64 16384] 90)) ba bb 0 aA cA aB cB a b x1 y1 sh (Kp.refl _ _) (fun q hq=>by have:=HD.out q hq;omega) (fun q hq=>by have:=HD.out q hq;omega) (HA.out.to kb6 HD.out (by omega)) (HB.out.to kb6 HD.out (by omega)) (HSH.out.imp (fun _ h=>h) (Agree.of kb6 HD.out)) HS2.out (by have:=HL.out;omega) Pw;have hcl:=(thruS_cells d 16384 (L+1) 0 a b sh).1;obtain ⟨r,hr⟩:∃ r,thruS d 16384 (L+1) 0 a b sh=r:=⟨_,rfl⟩;rw [hr] at C2 hcl HW2;clear hr;obtain ⟨e2,c3,T3⟩:=r;have HCL:Hid (e2=0→c3≤16384):=fun h=>by have:=(hcl h).2;dsimp only at this;omega
   clear hcl;have g5:=G5.cell 0 rfl;have hb2:(Instr.build 90 #[(0,.int .i32 d.gl),(1,.func (.func kf) #[] caps),(3,.int .i64 16384)]).run Tryz.prog w5=.ok (.agg #[.int .i32 d.gl,.func (.func kf) #[] caps,.int .i64 0,.int .i64 16384]) w5:=by kernel_rfl
   go_wp2_with fail
   clear g5 hb2;generalize hA6:w5.alloc (.cells #[.int .i32 d.gl,.func (.func kf) #[] caps,.int .i64 0,.int .i64 16384] 90)=u at *;clear hA6;refine C2.mono ?_;rintro e w7 ⟨⟨x5,n5,y5,b3,m3,d3,rfl,HV,HZ⟩,k7,_⟩;clear C2;have s7:=k7.size;have kb7:Below w.heap.size w w7:=kb6.trans (k7.below (by omega) (by omega));have R7:=kp_box k7 R6 (by omega);have r0:=R7.cell 0 rfl;have r1:=R7.cell 1 rfl;have f0:=R7.frozen 0;have f1:=R7.frozen 1;have Q:=boxA_s1 (boxA_s0 R7 (.slice x5 n5 y5)) (.slice b3 m3 d3);have j0:=Q.cell 0 rfl;have j1:=Q.cell 1 rfl;go_wp2
   refine bodyPost_ret (v:=.tuple #[.agg #[.slice x5 n5 y5,.slice b3 m3 d3],.int .i64 e2]) (by simp [results,Tryz.results20,go_sem,j0,j1]) rfl ?_;rw [HW2.out];refine ⟨⟨x5,n5,y5,b3,m3,d3,rfl,fun h => ?_,HZ⟩,Below.set2 kb7 (by omega) _ _⟩;exact ArV.imp (fun q hq=>⟨by have:=hq.1;omega,by rw [set1_size,set1_size];exact hq.2⟩) (fun q hq=>by rw [set1_other (by show ¬ w.heap.size+1=q;have:=hq.1;omega),set1_other (by show ¬ w.heap.size+1=q;have:=hq.1;omega)]) _ _ _ _ _ (Nat.le_refl _) (HV.out h (HCL.out h))
end
/-- What is handed in: two arrays, a right tolerance. -/
structure D5In (D:Nat→Prop) (f:Nat) (w:World) (bc:Bool) (e1 e2:Option Addr) (cn cd:List Int) (f1 f2:Nat) (x1 x2 x3 x4:Option Addr) (n1 y1 n2 y2 n3 y3 n4 y4:Nat) (t s:Tr):Prop where
 hD:∀ g,D g→g<w.heap.size
 va:ArV f D w (.slice x1 n1 y1) (.slice x2 n2 y2) t
 vb:ArV f D w (.slice x3 n3 y3) (.slice x4 n4 y4) s
 rn:Rd w.heap.size w (.slice e1 cn.length f1) cn
 rd:Rd w.heap.size w (.slice e2 cd.length f2) cd
 rc:RightP bc cn cd
theorem D5In.below {D:Nat→Prop} {f:Nat} {w w':World} {bc:Bool} {e1 e2:Option Addr} {cn cd:List Int} {f1 f2:Nat} {x1 x2 x3 x4:Option Addr} {n1 y1 n2 y2 n3 y3 n4 y4:Nat} {t s:Tr} (h:D5In D f w bc e1 e2 cn cd f1 f2 x1 x2 x3 x4 n1 y1 n2 y2 n3 y3 n4 y4 t s) (k:Below w.heap.size w w'):D5In D f w' bc e1 e2 cn cd f1 f2 x1 x2 x3 x4 n1 y1 n2 y2 n3 y3 n4 y4 t s:=
 ⟨fun g hg=>Nat.lt_of_lt_of_le (h.hD g hg) k.size,h.va.agree (Agree.of k h.hD),h.vb.agree (Agree.of k h.hD),(h.rn.below k).mono k.size,(h.rd.below k).mono k.size,h.rc⟩
/-- A glyph's function, and what it takes along. -/
def GlK (gl:Int) (kf:Nat) (capf:Nat→Array Value):Prop:=∀ b,atKey .nilFunc gl (tab2 b)=.func (.func kf) #[] (capf b)
/-- The functions of two numbers lie from block b on, and stay. -/
def CapsOf (b:Nat) (bc:Bool) (e1:Option Addr) (n1 f1:Nat) (e2:Option Addr) (n2 f2:Nat) (w:World):Prop:=∃ wq,OfTwo b bc e1 n1 f1 e2 n2 f2 wq∧Below wq.heap.size wq w
section
variable {D:Nat→Prop} {f:Nat} {w:World} {io pp:Int} {bc:Bool} {e1 e2:Option Addr} {cn cd:List Int} {f1 f2:Nat} {x1 x2 x3 x4:Option Addr} {n1 y1 n2 y2 n3 y3 n4 y4:Nat} {t s:Tr} {gl:Int} {kf:Nat} {capf:Nat→Array Value}
theorem dyadOf5_ok (hK:GlK gl kf capf) (hI:D5In D f w bc e1 e2 cn cd f1 f2 x1 x2 x3 x4 n1 y1 n2 y2 n3 y3 n4 y4 t s) (hR:(measF 16 t).isSome=true∧(measF 16 s).isSome=true) :
    Calls Tryz.prog 18 #[.agg #[.int .i64 io,.bool bc,.slice e1 cn.length f1,.slice e2 cd.length f2,.int .i64 pp],.int .i32 gl,.agg #[.slice x1 n1 y1,.slice x2 n2 y2],.agg #[.slice x3 n3 y3,.slice x4 n4 y4]] w fun e w'=>(∃ b0,e=.returned (.tuple #[.func (.func kf) #[] (capf b0),.int .i64 0])∧w.heap.size≤b0∧CapsOf b0 bc e1 cn.length f1 e2 cd.length f2 w')∧Below w.heap.size w w':=by
 have k1:=below_alloc w (.cells #[.int .i64 io,.bool bc,.slice e1 cn.length f1,.slice e2 cd.length f2,.int .i64 pp] 35);have k2:=below_alloc (w.alloc (.cells #[.int .i64 io,.bool bc,.slice e1 cn.length f1,.slice e2 cd.length f2,.int .i64 pp] 35)) (.cells #[.slice x1 n1 y1,.slice x2 n2 y2] 25);have k3:=below_alloc ((w.alloc (.cells #[.int .i64 io,.bool bc,.slice e1 cn.length f1,.slice e2 cd.length f2,.int .i64 pp] 35)).alloc (.cells #[.slice x1 n1 y1,.slice x2 n2 y2] 25)) (.cells #[.slice x3 n3 y3,.slice x4 n4 y4] 25);have k23:Below (w.alloc (.cells #[.int .i64 io,.bool bc,.slice e1 cn.length f1,.slice e2 cd.length f2,.int .i64 pp] 35)).heap.size (w.alloc (.cells #[.int .i64 io,.bool bc,.slice e1 cn.length f1,.slice e2 cd.length f2,.int .i64 pp] 35)) (((w.alloc (.cells #[.int .i64 io,.bool bc,.slice e1 cn.length f1,.slice e2 cd.length f2,.int .i64 pp] 35)).alloc (.cells #[.slice x1 n1 y1,.slice x2 n2 y2] 25)).alloc (.cells #[.slice x3 n3 y3,.slice x4 n4 y4] 25)):=k2.trans (k3.mono (by simp));have g:Below w.heap.size w (((w.alloc (.cells #[.int .i64 io,.bool bc,.slice e1 cn.length f1,.slice e2 cd.length f2,.int .i64 pp] 35)).alloc (.cells #[.slice x1 n1 y1,.slice x2 n2 y2] 25)).alloc (.cells #[.slice x3 n3 y3,.slice x4 n4 y4] 25)):=k1.trans (k23.mono (by simp));have EB:=(boxA_new w #[.int .i64 io,.bool bc,.slice e1 cn.length f1,.slice e2 cd.length f2,.int .i64 pp] 35).below k23 (by simp);have X:=(boxA_new (w.alloc (.cells #[.int .i64 io,.bool bc,.slice e1 cn.length f1,.slice e2 cd.length f2,.int .i64 pp] 35)) #[.slice x1 n1 y1,.slice x2 n2 y2] 25).below k3 (by simp);have Y:=boxA_new ((w.alloc (.cells #[.int .i64 io,.bool bc,.slice e1 cn.length f1,.slice e2 cd.length f2,.int .i64 pp] 35)).alloc (.cells #[.slice x1 n1 y1,.slice x2 n2 y2] 25)) #[.slice x3 n3 y3,.slice x4 n4 y4] 25;have sz2:((w.alloc (.cells #[.int .i64 io,.bool bc,.slice e1 cn.length f1,.slice e2 cd.length f2,.int .i64 pp] 35)).alloc (.cells #[.slice x1 n1 y1,.slice x2 n2 y2] 25)).heap.size=w.heap.size+1+1:=by simp
 have sz3:(((w.alloc (.cells #[.int .i64 io,.bool bc,.slice e1 cn.length f1,.slice e2 cd.length f2,.int .i64 pp] 35)).alloc (.cells #[.slice x1 n1 y1,.slice x2 n2 y2] 25)).alloc (.cells #[.slice x3 n3 y3,.slice x4 n4 y4] 25)).heap.size=w.heap.size+1+1+1:=by simp
 rw [World.size_alloc] at X;rw [sz2] at Y;have HI:Hid (D5In D f w bc e1 e2 cn cd f1 f2 x1 x2 x3 x4 n1 y1 n2 y2 n3 y3 n4 y4 t s):=hI;clear k1 k2 k3 k23 hI;have q1:=EB.cell 1 rfl;have q2:=EB.cell 2 rfl;have q3:=EB.cell 3 rfl;go_enter Tryz.func18,Tryz.ntmps18
 go_wp2_with fail
 generalize hA:(((w.alloc (.cells #[.int .i64 io,.bool bc,.slice e1 cn.length f1,.slice e2 cd.length f2,.int .i64 pp] 35)).alloc (.cells #[.slice x1 n1 y1,.slice x2 n2 y2] 25)).alloc (.cells #[.slice x3 n3 y3,.slice x4 n4 y4] 25))=v at *;clear hA q1 q2 q3;refine (ofTwo_any bc e1 e2 _ _ _ _ v).mono ?_;rintro e wq ⟨rfl,hT,b1⟩;have s1:=b1.size;have hget:(Instr.lookup 84 (.map (some (v.heap.size+1))) (.int .i32 gl) false).run Tryz.prog wq=.ok (.func (.func kf) #[] (capf v.heap.size)) wq:=by
  rw [← hK v.heap.size];exact MapIs.get (k:=gl) Tryz.underlying84 Tryz.underlying21 (zero_dyad wq) hT.tab
 have HOT:Hid (OfTwo v.heap.size bc e1 cn.length f1 e2 cd.length f2 wq):=hT;rw [sz3] at hget HOT;have E1:=EB.below b1 (by omega);have X1:=X.below b1 (by omega);have Y1:=Y.below b1 (by omega);have g1:Below w.heap.size w wq:=g.trans (b1.mono g.size);have HI1:=HI.out.below g1;have a0:=X1.cell 0 rfl;have a1:=X1.cell 1 rfl;clear hT;have C1:=right3_any HI1.hD HI1.va;obtain ⟨ra,hra⟩:∃ r,(measF 16 t).isSome=r:=⟨_,rfl⟩;obtain ⟨rb,hrb⟩:∃ r,(measF 16 s).isSome=r:=⟨_,rfl⟩;rw [hra] at C1 hR;rw [hrb] at hR;have HRB:Hid ((measF 16 s).isSome=rb):=hrb;have HC1:Hid (Calls Tryz.prog 13 _ wq _):=C1;have hnf:=eq_nilF;clear C1 HI1 hra hrb;obtain ⟨rfl,rfl⟩:=hR
 go_wp2_with fail
 clear hget a0 a1;refine HC1.out.mono ?_;rintro e w2 ⟨rfl,b2⟩;have s2:=b2.size;have E2:=E1.below b2 (by omega);have Y2:=Y1.below b2 (by omega);have g2:Below w.heap.size w w2:=g1.trans (b2.mono g1.size);have HI2:=HI.out.below g2;have C2:=right3_any HI2.hD HI2.vb;rw [HRB.out] at C2;have HC2:Hid (Calls Tryz.prog 13 _ w2 _):=C2;have a0:=Y2.cell 0 rfl;have a1:=Y2.cell 1 rfl;clear C2 HI2
 go_wp2_with fail
 clear a0 a1;refine HC2.out.mono ?_;rintro e w3 ⟨rfl,b3⟩;have s3:=b3.size;have E3:=E2.below b3 (by omega);have g3:Below w.heap.size w w3:=g2.trans (b3.mono g2.size);have HI3:=HI.out.below g3;have HC3:Hid (Calls Tryz.prog 26 _ w3 _):=right_rat (b:=bc) HI3.rn HI3.rd (Nat.le_refl _);have a1:=E3.cell 1 rfl;have a2:=E3.cell 2 rfl;have a3:=E3.cell 3 rfl;have HRC:Hid (RightP bc cn cd):=HI3.rc;clear HI3
 go_wp2_with fail
 clear a1 a2 a3;refine HC3.out.mono ?_;rintro e w4 ⟨⟨r,rfl,hr⟩,b4⟩;obtain rfl:=hr.2 HRC.out;clear hr;go_wp2
 go_ret2
 exact ⟨⟨w.heap.size+1+1+1,rfl,by omega,wq,HOT.out,(b2.trans (b3.mono s2)).trans (b4.mono (by omega))⟩,g3.trans (b4.mono g3.size)⟩
theorem dyadOf5_no (hK:GlK gl kf capf) (hI:D5In D f w bc e1 e2 cn cd f1 f2 x1 x2 x3 x4 n1 y1 n2 y2 n3 y3 n4 y4 t s) (hR:(measF 16 t).isSome=false∨(measF 16 s).isSome=false) :
    Calls Tryz.prog 18 #[.agg #[.int .i64 io,.bool bc,.slice e1 cn.length f1,.slice e2 cd.length f2,.int .i64 pp],.int .i32 gl,.agg #[.slice x1 n1 y1,.slice x2 n2 y2],.agg #[.slice x3 n3 y3,.slice x4 n4 y4]] w fun e w'=>e=.returned (.tuple #[.nilFunc,.int .i64 22])∧Below w.heap.size w w':=by
 have k1:=below_alloc w (.cells #[.int .i64 io,.bool bc,.slice e1 cn.length f1,.slice e2 cd.length f2,.int .i64 pp] 35);have k2:=below_alloc (w.alloc (.cells #[.int .i64 io,.bool bc,.slice e1 cn.length f1,.slice e2 cd.length f2,.int .i64 pp] 35)) (.cells #[.slice x1 n1 y1,.slice x2 n2 y2] 25);have k3:=below_alloc ((w.alloc (.cells #[.int .i64 io,.bool bc,.slice e1 cn.length f1,.slice e2 cd.length f2,.int .i64 pp] 35)).alloc (.cells #[.slice x1 n1 y1,.slice x2 n2 y2] 25)) (.cells #[.slice x3 n3 y3,.slice x4 n4 y4] 25);have k23:Below (w.alloc (.cells #[.int .i64 io,.bool bc,.slice e1 cn.length f1,.slice e2 cd.length f2,.int .i64 pp] 35)).heap.size (w.alloc (.cells #[.int .i64 io,.bool bc,.slice e1 cn.length f1,.slice e2 cd.length f2,.int .i64 pp] 35)) (((w.alloc (.cells #[.int .i64 io,.bool bc,.slice e1 cn.length f1,.slice e2 cd.length f2,.int .i64 pp] 35)).alloc (.cells #[.slice x1 n1 y1,.slice x2 n2 y2] 25)).alloc (.cells #[.slice x3 n3 y3,.slice x4 n4 y4] 25)):=k2.trans (k3.mono (by simp));have g:Below w.heap.size w (((w.alloc (.cells #[.int .i64 io,.bool bc,.slice e1 cn.length f1,.slice e2 cd.length f2,.int .i64 pp] 35)).alloc (.cells #[.slice x1 n1 y1,.slice x2 n2 y2] 25)).alloc (.cells #[.slice x3 n3 y3,.slice x4 n4 y4] 25)):=k1.trans (k23.mono (by simp));have EB:=(boxA_new w #[.int .i64 io,.bool bc,.slice e1 cn.length f1,.slice e2 cd.length f2,.int .i64 pp] 35).below k23 (by simp);have X:=(boxA_new (w.alloc (.cells #[.int .i64 io,.bool bc,.slice e1 cn.length f1,.slice e2 cd.length f2,.int .i64 pp] 35)) #[.slice x1 n1 y1,.slice x2 n2 y2] 25).below k3 (by simp);have Y:=boxA_new ((w.alloc (.cells #[.int .i64 io,.bool bc,.slice e1 cn.length f1,.slice e2 cd.length f2,.int .i64 pp] 35)).alloc (.cells #[.slice x1 n1 y1,.slice x2 n2 y2] 25)) #[.slice x3 n3 y3,.slice x4 n4 y4] 25;have sz2:((w.alloc (.cells #[.int .i64 io,.bool bc,.slice e1 cn.length f1,.slice e2 cd.length f2,.int .i64 pp] 35)).alloc (.cells #[.slice x1 n1 y1,.slice x2 n2 y2] 25)).heap.size=w.heap.size+1+1:=by simp
 have sz3:(((w.alloc (.cells #[.int .i64 io,.bool bc,.slice e1 cn.length f1,.slice e2 cd.length f2,.int .i64 pp] 35)).alloc (.cells #[.slice x1 n1 y1,.slice x2 n2 y2] 25)).alloc (.cells #[.slice x3 n3 y3,.slice x4 n4 y4] 25)).heap.size=w.heap.size+1+1+1:=by simp
 rw [World.size_alloc] at X;rw [sz2] at Y;have HI:Hid (D5In D f w bc e1 e2 cn cd f1 f2 x1 x2 x3 x4 n1 y1 n2 y2 n3 y3 n4 y4 t s):=hI;clear k1 k2 k3 k23 hI;have q1:=EB.cell 1 rfl;have q2:=EB.cell 2 rfl;have q3:=EB.cell 3 rfl;go_enter Tryz.func18,Tryz.ntmps18
 go_wp2_with fail
 generalize hA:(((w.alloc (.cells #[.int .i64 io,.bool bc,.slice e1 cn.length f1,.slice e2 cd.length f2,.int .i64 pp] 35)).alloc (.cells #[.slice x1 n1 y1,.slice x2 n2 y2] 25)).alloc (.cells #[.slice x3 n3 y3,.slice x4 n4 y4] 25))=v at *;clear hA q1 q2 q3;refine (ofTwo_any bc e1 e2 _ _ _ _ v).mono ?_;rintro e wq ⟨rfl,hT,b1⟩;have s1:=b1.size;have hget:(Instr.lookup 84 (.map (some (v.heap.size+1))) (.int .i32 gl) false).run Tryz.prog wq=.ok (.func (.func kf) #[] (capf v.heap.size)) wq:=by
  rw [← hK v.heap.size];exact MapIs.get (k:=gl) Tryz.underlying84 Tryz.underlying21 (zero_dyad wq) hT.tab
 have HOT:Hid (OfTwo v.heap.size bc e1 cn.length f1 e2 cd.length f2 wq):=hT;rw [sz3] at hget HOT;have E1:=EB.below b1 (by omega);have X1:=X.below b1 (by omega);have Y1:=Y.below b1 (by omega);have g1:Below w.heap.size w wq:=g.trans (b1.mono g.size);have HI1:=HI.out.below g1;have a0:=X1.cell 0 rfl;have a1:=X1.cell 1 rfl;clear hT;have C1:=right3_any HI1.hD HI1.va;obtain ⟨ra,hra⟩:∃ r,(measF 16 t).isSome=r:=⟨_,rfl⟩;obtain ⟨rb,hrb⟩:∃ r,(measF 16 s).isSome=r:=⟨_,rfl⟩;rw [hra] at C1 hR;rw [hrb] at hR;have HRB:Hid ((measF 16 s).isSome=rb):=hrb;have HC1:Hid (Calls Tryz.prog 13 _ wq _):=C1;have hnf:=eq_nilF;clear C1 HI1 hra hrb
 cases ra with
 | false=>
  clear hR
  go_wp2_with fail
  clear hget a0 a1;refine HC1.out.mono ?_;rintro e w2 ⟨rfl,b2⟩;go_wp2
  go_ret2
  exact ⟨rfl,g1.trans (b2.mono g1.size)⟩
 | true=>
  obtain rfl:rb=false:=by simpa using hR
  clear hR
  go_wp2_with fail
  clear hget a0 a1;refine HC1.out.mono ?_;rintro e w2 ⟨rfl,b2⟩;have s2:=b2.size;have Y2:=Y1.below b2 (by omega);have g2:Below w.heap.size w w2:=g1.trans (b2.mono g1.size);have HI2:=HI.out.below g2;have C2:=right3_any HI2.hD HI2.vb;rw [HRB.out] at C2;have HC2:Hid (Calls Tryz.prog 13 _ w2 _):=C2;have a0:=Y2.cell 0 rfl;have a1:=Y2.cell 1 rfl;clear C2 HI2
  go_wp2_with fail
  clear a0 a1;refine HC2.out.mono ?_;rintro e w3 ⟨rfl,b3⟩;go_wp2
  go_ret2
  exact ⟨rfl,g2.trans (b3.mono g2.size)⟩
end
/-- What Dyadic tells of two arrays: an error, or the array. -/
noncomputable def dyadS (d:Dy) (t s:Tr):Int×Tr:=
 if (measF 16 t).isSome=true∧(measF 16 s).isSome=true then
  (if (togS t.ns t.kids.length s.ns s.kids.length).1=0 then wholeS d 15 t s (togS t.ns t.kids.length s.ns s.kids.length).2 else ((togS t.ns t.kids.length s.ns s.kids.length).1,tr0))
 else (22,tr0)
section
variable {D:Nat→Prop} {f:Nat} {w:World} {io pp:Int} {bc:Bool} {e1 e2:Option Addr} {cn cd:List Int} {f1 f2:Nat} {x1 x2 x3 x4:Option Addr} {n1 y1 n2 y2 n3 y3 n4 y4:Nat} {t s:Tr} {gl:Int} {kf:Nat} {capf:Nat→Array Value} {d:Dy}
theorem dyadic5_any (hK:GlK d.gl kf capf) (HU:Hid (UnOK d)) (hgl:d.gl≠42∧d.gl≠33) (hI:D5In D f w bc e1 e2 cn cd f1 f2 x1 x2 x3 x4 n1 y1 n2 y2 n3 y3 n4 y4 t s) (HDo:Hid (∀ b0 u,Below w.heap.size w u→w.heap.size≤b0→CapsOf b0 bc e1 cn.length f1 e2 cd.length f2 u→∀ p v,Below u.heap.size u v→u.heap.size≤p→DoOK d kf (capf b0) p v)) :
    Calls Tryz.prog 7 #[.agg #[.int .i64 io,.bool bc,.slice e1 cn.length f1,.slice e2 cd.length f2,.int .i64 pp],.int .i32 d.gl,.agg #[.slice x1 n1 y1,.slice x2 n2 y2],.agg #[.slice x3 n3 y3,.slice x4 n4 y4]] w fun e w'=>WhR w.heap.size 15 (dyadS d t s) e w'∧Below w.heap.size w w':=by
 obtain ⟨f,rfl⟩:∃ f',f=f'+1:=by
  cases f with
  | zero=>exact hI.va.elim
  | succ f=>exact ⟨f,rfl⟩
 have en1:=hI.va.1.len;have en2:=hI.va.2.len;have en3:=hI.vb.1.len;have en4:=hI.vb.2.len;have HT:Hid (togS t.ns n2 s.ns n4=togS t.ns t.kids.length s.ns s.kids.length):=by rw [en2,en4];exact rfl
 have EN1:Hid (n1=t.ns.length):=en1;have EN2:Hid (n2=t.kids.length):=en2;have EN3:Hid (n3=s.ns.length):=en3;have EN4:Hid (n4=s.kids.length):=en4;clear en1 en2 en3 en4;have k1:=below_alloc w (.cells #[.int .i64 io,.bool bc,.slice e1 cn.length f1,.slice e2 cd.length f2,.int .i64 pp] 35);have k2:=below_alloc (w.alloc (.cells #[.int .i64 io,.bool bc,.slice e1 cn.length f1,.slice e2 cd.length f2,.int .i64 pp] 35)) (.cells #[.slice x1 n1 y1,.slice x2 n2 y2] 25);have k3:=below_alloc ((w.alloc (.cells #[.int .i64 io,.bool bc,.slice e1 cn.length f1,.slice e2 cd.length f2,.int .i64 pp] 35)).alloc (.cells #[.slice x1 n1 y1,.slice x2 n2 y2] 25)) (.cells #[.slice x3 n3 y3,.slice x4 n4 y4] 25);have k4:=below_alloc (((w.alloc (.cells #[.int .i64 io,.bool bc,.slice e1 cn.length f1,.slice e2 cd.length f2,.int .i64 pp] 35)).alloc (.cells #[.slice x1 n1 y1,.slice x2 n2 y2] 25)).alloc (.cells #[.slice x3 n3 y3,.slice x4 n4 y4] 25)) (.cells #[.slice none 0 0,.slice none 0 0] 25);have k34:Below ((w.alloc (.cells #[.int .i64 io,.bool bc,.slice e1 cn.length f1,.slice e2 cd.length f2,.int .i64 pp] 35)).alloc (.cells #[.slice x1 n1 y1,.slice x2 n2 y2] 25)).heap.size ((w.alloc (.cells #[.int .i64 io,.bool bc,.slice e1 cn.length f1,.slice e2 cd.length f2,.int .i64 pp] 35)).alloc (.cells #[.slice x1 n1 y1,.slice x2 n2 y2] 25)) ((((w.alloc (.cells #[.int .i64 io,.bool bc,.slice e1 cn.length f1,.slice e2 cd.length f2,.int .i64 pp] 35)).alloc (.cells #[.slice x1 n1 y1,.slice x2 n2 y2] 25)).alloc (.cells #[.slice x3 n3 y3,.slice x4 n4 y4] 25)).alloc (.cells #[.slice none 0 0,.slice none 0 0] 25)):=k3.trans (k4.mono (by simp));have k24:Below (w.alloc (.cells #[.int .i64 io,.bool bc,.slice e1 cn.length f1,.slice e2 cd.length f2,.int .i64 pp] 35)).heap.size (w.alloc (.cells #[.int .i64 io,.bool bc,.slice e1 cn.length f1,.slice e2 cd.length f2,.int .i64 pp] 35)) ((((w.alloc (.cells #[.int .i64 io,.bool bc,.slice e1 cn.length f1,.slice e2 cd.length f2,.int .i64 pp] 35)).alloc (.cells #[.slice x1 n1 y1,.slice x2 n2 y2] 25)).alloc (.cells #[.slice x3 n3 y3,.slice x4 n4 y4] 25)).alloc (.cells #[.slice none 0 0,.slice none 0 0] 25)):=k2.trans (k34.mono (by simp));have g:Below w.heap.size w ((((w.alloc (.cells #[.int .i64 io,.bool bc,.slice e1 cn.length f1,.slice e2 cd.length f2,.int .i64 pp] 35)).alloc (.cells #[.slice x1 n1 y1,.slice x2 n2 y2] 25)).alloc (.cells #[.slice x3 n3 y3,.slice x4 n4 y4] 25)).alloc (.cells #[.slice none 0 0,.slice none 0 0] 25)):=k1.trans (k24.mono (by simp));have EB:=(boxA_new w #[.int .i64 io,.bool bc,.slice e1 cn.length f1,.slice e2 cd.length f2,.int .i64 pp] 35).below k24 (by simp);have X:=(boxA_new (w.alloc (.cells #[.int .i64 io,.bool bc,.slice e1 cn.length f1,.slice e2 cd.length f2,.int .i64 pp] 35)) #[.slice x1 n1 y1,.slice x2 n2 y2] 25).below k34 (by simp);have Y:=(boxA_new ((w.alloc (.cells #[.int .i64 io,.bool bc,.slice e1 cn.length f1,.slice e2 cd.length f2,.int .i64 pp] 35)).alloc (.cells #[.slice x1 n1 y1,.slice x2 n2 y2] 25)) #[.slice x3 n3 y3,.slice x4 n4 y4] 25).below k4 (by simp);have R:=boxA_new (((w.alloc (.cells #[.int .i64 io,.bool bc,.slice e1 cn.length f1,.slice e2 cd.length f2,.int .i64 pp] 35)).alloc (.cells #[.slice x1 n1 y1,.slice x2 n2 y2] 25)).alloc (.cells #[.slice x3 n3 y3,.slice x4 n4 y4] 25)) #[.slice none 0 0,.slice none 0 0] 25;have sz2:((w.alloc (.cells #[.int .i64 io,.bool bc,.slice e1 cn.length f1,.slice e2 cd.length f2,.int .i64 pp] 35)).alloc (.cells #[.slice x1 n1 y1,.slice x2 n2 y2] 25)).heap.size=w.heap.size+1+1:=by simp
 have sz3:(((w.alloc (.cells #[.int .i64 io,.bool bc,.slice e1 cn.length f1,.slice e2 cd.length f2,.int .i64 pp] 35)).alloc (.cells #[.slice x1 n1 y1,.slice x2 n2 y2] 25)).alloc (.cells #[.slice x3 n3 y3,.slice x4 n4 y4] 25)).heap.size=w.heap.size+1+1+1:=by simp
 have sz4:((((w.alloc (.cells #[.int .i64 io,.bool bc,.slice e1 cn.length f1,.slice e2 cd.length f2,.int .i64 pp] 35)).alloc (.cells #[.slice x1 n1 y1,.slice x2 n2 y2] 25)).alloc (.cells #[.slice x3 n3 y3,.slice x4 n4 y4] 25)).alloc (.cells #[.slice none 0 0,.slice none 0 0] 25)).heap.size=w.heap.size+1+1+1+1:=by simp
 rw [World.size_alloc] at X;rw [sz2] at Y;rw [sz3] at R;have HI:Hid (D5In D (f+1) w bc e1 e2 cn cd f1 f2 x1 x2 x3 x4 n1 y1 n2 y2 n3 y3 n4 y4 t s):=hI;clear k1 k2 k3 k4 k34 k24 hI;have q0:=EB.cell 0 rfl;have q1:=EB.cell 1 rfl;have q2:=EB.cell 2 rfl;have q3:=EB.cell 3 rfl;have q4:=EB.cell 4 rfl;have a0:=X.cell 0 rfl;have a1:=X.cell 1 rfl;have b0:=Y.cell 0 rfl;have b1:=Y.cell 1 rfl;by_cases hR:(measF 16 t).isSome=true∧(measF 16 s).isSome=true
 · have HS:Hid (dyadS d t s=if (togS t.ns t.kids.length s.ns s.kids.length).1=0 then wholeS d 15 t s (togS t.ns t.kids.length s.ns s.kids.length).2 else ((togS t.ns t.kids.length s.ns s.kids.length).1,tr0)):=by unfold Hid dyadS;rw [if_pos hR]
   have HR:Hid ((measF 16 t).isSome=true∧(measF 16 s).isSome=true):=hR;clear hR;go_enter Tryz.func7,Tryz.ntmps7
   go_wp2_with fail
   generalize hA':((((w.alloc (.cells #[.int .i64 io,.bool bc,.slice e1 cn.length f1,.slice e2 cd.length f2,.int .i64 pp] 35)).alloc (.cells #[.slice x1 n1 y1,.slice x2 n2 y2] 25)).alloc (.cells #[.slice x3 n3 y3,.slice x4 n4 y4] 25)).alloc (.cells #[.slice none 0 0,.slice none 0 0] 25))=v at *;clear hA' q0 q1 q2 q3 q4 a0 a1 b0 b1;refine (dyadOf5_ok hK (HI.out.below g) HR.out).mono ?_;rintro e w1 ⟨⟨bq,rfl,hbq,HC⟩,p1⟩;have HCQ:Hid (CapsOf bq bc e1 cn.length f1 e2 cd.length f2 w1):=HC;clear HC;have s1:=p1.size;have X1:=X.below p1 (by omega);have Y1:=Y.below p1 (by omega);have R1:=R.below p1 (by omega);have g1:Below w.heap.size w w1:=g.trans (p1.mono g.size);have HI1:=HI.out.below g1;have HC1:=together5_n (D:=D) (w:=w1) (x2:=x2) (n2:=n2) (y2:=y2) (x4:=x4) (n4:=n4) (y4:=y4) HI1.hD HI1.va.1 HI1.vb.1;rw [HT.out] at HC1;have hs2:Hid ((togS t.ns t.kids.length s.ns s.kids.length).1=0→(sizeF (togS t.ns t.kids.length s.ns s.kids.length).2).2=0):=fun h=>by
    obtain ⟨_,_,_,e1,_⟩:=measF_some HR.out.1;obtain ⟨_,_,_,e2,_⟩:=measF_some HR.out.2;rcases togS_ok h with e | e
    · rw [e];exact e1
    · rw [e];exact e2
   obtain ⟨tg,htg⟩:∃ tg,togS t.ns t.kids.length s.ns s.kids.length=tg:=⟨_,rfl⟩;rw [htg] at HC1 HS hs2;obtain ⟨te,sh⟩:=tg;clear htg;have a0:=X1.cell 0 rfl;have a1:=X1.cell 1 rfl;have b0:=Y1.cell 0 rfl;have b1:=Y1.cell 1 rfl;clear HI1
   go_wp2_with fail
   clear a0 a1 b0 b1;refine HC1.mono ?_;rintro e w2 ⟨⟨x5,y5,rfl,hsh⟩,p2⟩;clear HC1;have HSH:Hid (RdN D w1 (.slice x5 sh.length y5) sh):=hsh;clear hsh;have s2:=p2.size;have X2:=X1.below p2 (by omega);have Y2:=Y1.below p2 (by omega);have R2:=R1.below p2 (by omega);have g2:Below w.heap.size w w2:=g1.trans (p2.mono g1.size);by_cases hte:te=0
   · subst hte
     have HSW:Hid (dyadS d t s=wholeS d 15 t s sh):=by rw [HS.out];exact if_pos rfl
     have HS2:Hid ((sizeF sh).2=0):=hs2.out rfl;have a0:=X2.cell 0 rfl;have a1:=X2.cell 1 rfl;have b0:=Y2.cell 0 rfl;have b1:=Y2.cell 1 rfl
     go_wp2_with fail
     clear a0 a1 b0 b1;refine pairsOf5_any.mono ?_;rintro e w3 ⟨rfl,BA,BB,p3⟩;have s3:=p3.size;have R3:=R2.below p3 (by omega);have g3:Below w.heap.size w w3:=g2.trans (p3.mono g2.size);have gc:Below w1.heap.size w1 w3:=p2.trans (p3.mono p2.size);have HI3:=HI.out.below g3;have lBA:=BA.lt;have lBB:=BB.lt;obtain ⟨LA,eA,_,_,_,_,okA⟩:=measF_some HR.out.1;obtain ⟨LB,eB,_,_,_,_,okB⟩:=measF_some HR.out.2;obtain rfl:LA=15:=by omega
     obtain rfl:LB=15:=by omega
     have hva:=HI3.va.2;have hvb:=HI3.vb.2;rw [EN2.out] at BA hva;rw [EN4.out] at BB hvb;have CW:=whole5_any (d:=d) (L:=15) HU hgl (fun p u hu hp=>HDo.out bq w1 g1 (by omega) HCQ.out p u ((gc.trans (hu.mono gc.size))) (by omega)) (by omega) HI3.hD
      ⟨BA.cell 1 rfl,hva,meas_pos HR.out.1,okA,by omega⟩ ⟨BB.cell 1 rfl,hvb,meas_pos HR.out.2,okB,by omega⟩ (HSH.out.imp (fun _ h=>h) (fun q hq=>gc.block q (by have:=(HI.out.below g1).hD q hq;exact this))) HS2.out
     have HCW:Hid (Calls Tryz.prog 20 _ w3 _):=CW;clear CW HI3 hva hvb okA okB eA eB;obtain ⟨r,hr⟩:∃ r,wholeS d 15 t s sh=r:=⟨_,rfl⟩;rw [hr] at HCW HSW;clear hr
     go_wp2_with fail
     refine HCW.out.mono ?_;rintro e w4 ⟨⟨x6,n6,y6,b6,m6,d6,rfl,HV,HZ⟩,p4⟩;have s4:=p4.size;have R4:=R3.below p4 (by omega);have g4:Below w.heap.size w w4:=g3.trans (p4.mono g3.size);have r0:=R4.cell 0 rfl;have r1:=R4.cell 1 rfl;have f0:=R4.frozen 0;have f1':=R4.frozen 1;have Q:=boxA_s1 (boxA_s0 R4 (.slice x6 n6 y6)) (.slice b6 m6 d6);have j0:=Q.cell 0 rfl;have j1:=Q.cell 1 rfl;go_wp2
     refine bodyPost_ret (v:=.tuple #[.agg #[.slice x6 n6 y6,.slice b6 m6 d6],.int .i64 r.1]) (by simp [results,Tryz.results7,go_sem,j0,j1]) rfl ?_;rw [HSW.out];refine ⟨⟨x6,n6,y6,b6,m6,d6,rfl,fun h => ?_,HZ⟩,Below.set2 g4 (by omega) _ _⟩;exact ArV.imp (fun q hq=>⟨by have:=hq.1;omega,by rw [set1_size,set1_size];exact hq.2⟩) (fun q hq=>by rw [set1_other (by show ¬ w.heap.size+1+1+1=q;have:=hq.1;omega),set1_other (by show ¬ w.heap.size+1+1+1=q;have:=hq.1;omega)]) _ _ _ _ _ (Nat.le_refl _) (HV.out h)
   · have hne:(te != 0)=true:=by rw [bne_iff_ne];exact hte
     have HSW:Hid (dyadS d t s=(te,tr0)):=by rw [HS.out];exact if_neg hte
     have HTE:Hid (te≠0):=hte;clear hte;have r0:=R2.cell 0 rfl;have r1:=R2.cell 1 rfl;have f0:=R2.frozen 0;have f1':=R2.frozen 1;have Q:=boxA_s1 (boxA_s0 R2 (.slice none 0 0)) (.slice none 0 0);have j0:=Q.cell 0 rfl;have j1:=Q.cell 1 rfl;go_wp2
     refine bodyPost_ret (v:=.tuple #[.agg #[.slice none 0 0,.slice none 0 0],.int .i64 te]) (by simp [results,Tryz.results7,go_sem,j0,j1]) rfl ?_;rw [HSW.out];exact ⟨⟨none,0,0,none,0,0,rfl,fun h=>absurd h HTE.out,fun _=>⟨rfl,rfl,rfl,rfl,rfl,rfl⟩⟩,Below.set2 g2 (by omega) _ _⟩
 · have HS:Hid (dyadS d t s=(22,tr0)):=by unfold Hid dyadS;rw [if_neg hR]
   have hR2:(measF 16 t).isSome=false∨(measF 16 s).isSome=false:=by
    cases h1:(measF 16 t).isSome with
    | false=>exact Or.inl rfl
    | true=>exact Or.inr (by cases h2:(measF 16 s).isSome with
     | false=>rfl
     | true=>exact absurd ⟨h1,h2⟩ hR)
   have HR:Hid ((measF 16 t).isSome=false∨(measF 16 s).isSome=false):=hR2;clear hR hR2;go_enter Tryz.func7,Tryz.ntmps7
   go_wp2_with fail
   generalize hA':((((w.alloc (.cells #[.int .i64 io,.bool bc,.slice e1 cn.length f1,.slice e2 cd.length f2,.int .i64 pp] 35)).alloc (.cells #[.slice x1 n1 y1,.slice x2 n2 y2] 25)).alloc (.cells #[.slice x3 n3 y3,.slice x4 n4 y4] 25)).alloc (.cells #[.slice none 0 0,.slice none 0 0] 25))=v at *;clear hA' q0 q1 q2 q3 q4 a0 a1 b0 b1;refine (dyadOf5_no hK (HI.out.below g) HR.out).mono ?_;rintro e w1 ⟨rfl,p1⟩;have s1:=p1.size;have R1:=R.below p1 (by omega);have g1:Below w.heap.size w w1:=g.trans (p1.mono g.size);have r0:=R1.cell 0 rfl;have r1:=R1.cell 1 rfl;have f0:=R1.frozen 0;have f1':=R1.frozen 1;have Q:=boxA_s1 (boxA_s0 R1 (.slice none 0 0)) (.slice none 0 0);have j0:=Q.cell 0 rfl;have j1:=Q.cell 1 rfl;go_wp2
   refine bodyPost_ret (v:=.tuple #[.agg #[.slice none 0 0,.slice none 0 0],.int .i64 22]) (by simp [results,Tryz.results7,go_sem,j0,j1]) rfl ?_;rw [HS.out];exact ⟨⟨none,0,0,none,0,0,rfl,(fun h=>by cases h),fun _=>⟨rfl,rfl,rfl,rfl,rfl,rfl⟩⟩,Below.set2 g1 (by omega) _ _⟩
end
theorem prodF_ge:∀ (l:List Int) (s n:Int),1≤s→(∀ x∈l,1≤x)→prodF l s=some n→s≤n∧(n=s→∀ x∈l,x=1)
 | [],s,n,h1,_,h=>by
  rw [prodF] at h
  cases h
  exact ⟨Int.le_refl _,fun _ x hx=>by cases hx⟩
 | y :: l,s,n,h1,hl,h=>by
  rw [prodF] at h
  split at h
  · cases h
  · have hy:=hl y (by simp)
    have hsy:s≤s*y:=by
     have:=Int.mul_le_mul_of_nonneg_left hy (show 0≤s by omega)
     rwa [Int.mul_one] at this
    obtain ⟨i1,i2⟩:=prodF_ge l (s*y) n (by omega) (fun x hx=>hl x (by simp [hx])) h;refine ⟨by omega,fun e => ?_⟩;have e1:s*y=s:=by omega
    have ey:y=1:=by
     by_cases h2:2≤y
     · have:=Int.mul_le_mul_of_nonneg_left h2 (show 0≤s by omega)
       omega
     · omega
    intro x hx;rcases List.mem_cons.1 hx with rfl | hx
    · exact ey
    · exact i2 (by omega) x hx
/-- A shape of one item has all lengths 1. -/
theorem one_shape {sh:List Int} {n:Nat} (h2:(sizeF sh).2=0) (hn:(n:Int)=max (sizeF sh).1 1) (h:oneS sh n=true):sh=List.replicate sh.length 1:=by
 unfold oneS at h;rw [Bool.and_eq_true,decide_eq_true_iff] at h;obtain ⟨hn1,hz⟩:=h;have hz':¬ (0:Int)∈sh:=by
  intro hm;rw [← List.contains_iff_mem] at hm;rw [hm] at hz
  cases hz
 have hall:∀ x∈sh,x=1:=by
  unfold sizeF at h2 hn;by_cases c1:8<sh.length
  · rw [if_pos c1] at h2;cases h2
  · rw [if_neg c1] at h2 hn
    by_cases c2:loF sh<0
    · rw [if_pos c2] at h2;cases h2
    · rw [if_neg c2] at h2 hn
      by_cases c3:4096<hiF sh
      · rw [if_pos c3] at h2;cases h2
      · rw [if_neg c3] at h2 hn
        have hge:∀ x∈sh,1≤x:=fun x hx=>by
         have:=(foldl_lo sh 1).2 x hx;unfold loF at c2;by_cases hx0:x=0
         · exact absurd (hx0 ▸ hx) hz'
         · omega
        by_cases c4:loF sh=0
        · exfalso
          have:∀ (l:List Int) (a:Int),l.foldl min a=a∨l.foldl min a∈l:=by
           intro l
           induction l with
           | nil=>intro a;exact Or.inl rfl
           | cons y l ih=>
            intro a;rw [List.foldl_cons];rcases ih (min a y) with h | h
            · by_cases hay:a≤y
              · left;rw [h];omega
              · right;rw [h,show min a y=y by omega];simp
            · right;simp [h]
          rcases this sh 1 with h | h
          · unfold loF at c4;rw [c4] at h;cases h
          · unfold loF at c4;rw [c4] at h;exact hz' h
        · rw [if_neg c4] at h2 hn
          split at hn
          · rename_i m hm
            have:=prodF_ge sh 1 m (by omega) hge hm;exact this.2 (by have h1:=this.1;dsimp only at hn;omega)
          · rename_i hm
            rw [hm] at h2
            cases h2
 exact List.eq_replicate_of_mem hall
theorem togS_comm {sa sb:List Int} {na nb:Nat} (ha2:(sizeF sa).2=0) (ha:(na:Int)=max (sizeF sa).1 1) (hb2:(sizeF sb).2=0) (hb:(nb:Int)=max (sizeF sb).1 1):togS sa na sb nb=togS sb nb sa na:=by
 unfold togS;by_cases e:sa=sb
 · subst e
   rw [if_pos rfl,if_pos rfl]
 · have e':¬ sb=sa:=fun h=>e h.symm
   rw [if_neg e,if_neg e']
   cases hA:oneS sa na <;> cases hB:oneS sb nb
   · by_cases hl:sa.length=sb.length
     · simp [hl]
     · have hl':¬ sb.length=sa.length:=fun h=>hl h.symm
       simp [hl,hl']
   · simp
   · simp
   · have hne:sa.length≠sb.length:=fun hl=>e (by rw [one_shape ha2 ha hA,one_shape hb2 hb hB,hl])
     by_cases hl:sa.length<sb.length
     · have hl':¬ sb.length<sa.length:=by omega
       simp [hl,hl']
     · have hl':sb.length<sa.length:=by omega
       simp [hl,hl']
/-- A right number, as an item. -/
structure NumOK (x:Tr):Prop where
 k:x.k=1
 r:RightP x.b x.ns x.ds
 c:x.c=0
 z:x.kids.length=0
/-- Both ways round the same, of two right numbers. -/
structure CommD (d:Dy):Prop where
 no:∀ x y,d.no x y=d.no y x
 op:∀ x y,NumOK x→NumOK y→d.op x y=d.op y x
theorem CommD.look {d:Dy} (h:CommD d):CommD (lookD d):=⟨h.no,fun x y _ _=>by show unS d x y=unS d y x;unfold unS;rw [h.no]⟩
theorem small_comm (x y:Tr):smallS x y=smallS y x:=by
 unfold smallS
 congr 1
 apply propext;omega
theorem numS_comm {d:Dy} (h:CommD d) {K c:Nat} {x y:Tr} (hx:NumOK x) (hy:NumOK y):numS d K c x y=numS d K c y x:=by
 unfold numS;rw [small_comm x y,h.no x y,h.op x y hx hy]
theorem alike_comm (gl:Int) (x y:Tr):alikeS gl x y=alikeS gl y x:=by
 unfold alikeS;have e1:decide (x.k=y.k)=decide (y.k=x.k):=by rw [decide_eq_decide];exact eq_comm
 have e2:decide (x.c=y.c)=decide (y.c=x.c):=by rw [decide_eq_decide];exact eq_comm
 rw [e1,e2]
theorem num_right {L:Nat} {x:Tr} (hm:(measI (measF L) x).isSome=true) (hk:x.k=1):NumOK x:=by
 rcases measI_cases hm with ⟨h,h1,h2,h3⟩ | ⟨h,_⟩ | ⟨h,_⟩
 · exact ⟨h,h1,h2,h3⟩
 · omega
 · omega
theorem itemS_comm {d:Dy} (h:CommD d) {K L c:Nat} {x y:Tr} (hx:(measI (measF L) x).isSome=true) (hy:(measI (measF L) y).isSome=true)
    (hrec:∀ L',L=L'+1→∀ c a b sh,0<a.kids.length→0<b.kids.length→(∀ z∈a.kids,(measI (measF L') z).isSome=true)→(∀ z∈b.kids,(measI (measF L') z).isSome=true)→thruS d K (L'+1) c a b sh=thruS d K (L'+1) c b a sh):itemS (thruS d K L) d K c x y=itemS (thruS d K L) d K c y x:=by
 by_cases h3:x.k=3∨y.k=3
 · have h3':y.k=3∨x.k=3:=h3.symm
   rw [itemS_box h3,itemS_box h3'];obtain ⟨L',rfl⟩:∃ L',L=L'+1:=by
    rcases h3 with h | h
    · rcases measI_cases hx with ⟨e,_⟩ | ⟨e,_⟩ | ⟨_,_,_,_,_,hM⟩
      · omega
      · omega
      · obtain ⟨L',e,_⟩:=measF_some hM;exact ⟨L',e⟩
    · rcases measI_cases hy with ⟨e,_⟩ | ⟨e,_⟩ | ⟨_,_,_,_,_,hM⟩
      · omega
      · omega
      · obtain ⟨L',e,_⟩:=measF_some hM;exact ⟨L',e⟩
   have mX:=open_meas hx (Or.inr (by omega));have mY:=open_meas hy (Or.inr (by omega));obtain ⟨LA,eA,_,sA2,sA,_,okA⟩:=measF_some mX;obtain ⟨LB,eB,_,sB2,sB,_,okB⟩:=measF_some mY;obtain rfl:LA=L':=by omega
   obtain rfl:LB=LA:=by omega
   unfold boxS;rw [togS_comm sA2 sA sB2 sB];rw [hrec LB rfl c (openS x) (openS y) _ (meas_pos mX) (meas_pos mY) okA okB]
 · by_cases h1:x.k=1∧y.k=1
   · rw [itemS_num h1.1 h1.2,itemS_num h1.2 h1.1,numS_comm h (num_right hx h1.1) (num_right hy h1.2)]
   · unfold itemS
     rw [if_neg h3,if_neg h1,if_neg (show ¬ (y.k=3∨x.k=3) from fun e=>h3 e.symm),if_neg (show ¬ (y.k=1∧x.k=1) from fun e=>h1 ⟨e.2,e.1⟩),alike_comm]
theorem thruS_comm {d:Dy} (h:CommD d) (K:Nat):∀ (L c:Nat) (a b:Tr) (sh:List Int),0<a.kids.length→0<b.kids.length→(∀ z∈a.kids,(measI (measF L) z).isSome=true)→(∀ z∈b.kids,(measI (measF L) z).isSome=true)→thruS d K (L+1) c a b sh=thruS d K (L+1) c b a sh
 | 0,c,a,b,sh,ha,hb,oa,ob=>by
  rw [thruS,thruS];rw [stS_congr (it:=fun i c=>itemS (thruS d K 0) d K c (a.kids.getD (i % a.kids.length) tr0) (b.kids.getD (i % b.kids.length) tr0)) (jt:=fun i c=>itemS (thruS d K 0) d K c (b.kids.getD (i % b.kids.length) tr0) (a.kids.getD (i % a.kids.length) tr0)) _ (fun i c _=>itemS_comm h (oa _ (getD_memI (Nat.mod_lt i ha))) (ob _ (getD_memI (Nat.mod_lt i hb))) (fun L' e=>by omega))]
 | L+1,c,a,b,sh,ha,hb,oa,ob=>by
  rw [thruS.eq_def d K (L+1+1) c a b sh,thruS.eq_def d K (L+1+1) c b a sh];dsimp only;rw [stS_congr (it:=fun i c=>itemS (thruS d K (L+1)) d K c (a.kids.getD (i % a.kids.length) tr0) (b.kids.getD (i % b.kids.length) tr0)) (jt:=fun i c=>itemS (thruS d K (L+1)) d K c (b.kids.getD (i % b.kids.length) tr0) (a.kids.getD (i % a.kids.length) tr0)) _ (fun i c _=>itemS_comm h (oa _ (getD_memI (Nat.mod_lt i ha))) (ob _ (getD_memI (Nat.mod_lt i hb))) (fun L' e=>by
   obtain rfl:L'=L:=by omega
   exact fun c a b sh q1 q2 q3 q4=>thruS_comm h K L' c a b sh q1 q2 q3 q4))]
theorem dyadS_comm {d:Dy} (h:CommD d) (t s:Tr):dyadS d t s=dyadS d s t:=by
 unfold dyadS;by_cases hR:(measF 16 t).isSome=true∧(measF 16 s).isSome=true
 · rw [if_pos hR,if_pos (show (measF 16 s).isSome=true∧(measF 16 t).isSome=true from ⟨hR.2,hR.1⟩)]
   obtain ⟨LA,eA,_,sA2,sA,_,okA⟩:=measF_some hR.1;obtain ⟨LB,eB,_,sB2,sB,_,okB⟩:=measF_some hR.2;obtain rfl:LA=15:=by omega
   obtain rfl:LB=15:=by omega
   rw [togS_comm sA2 sA sB2 sB];unfold wholeS;rw [thruS_comm h 16384 15 0 t s _ (meas_pos hR.1) (meas_pos hR.2) okA okB,thruS_comm h.look 0 15 0 t s _ (meas_pos hR.1) (meas_pos hR.2) okA okB]
 · rw [if_neg hR,if_neg (show ¬ ((measF 16 s).isSome=true∧(measF 16 t).isSome=true) from fun e=>hR ⟨e.2,e.1⟩)]
end Go.Proofs.YtmijanocljmaeaaGreat
