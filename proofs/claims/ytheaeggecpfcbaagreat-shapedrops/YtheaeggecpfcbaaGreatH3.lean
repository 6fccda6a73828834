/- shape.walk's iterator: the places that steps lead to. -/
import Derived.Test.YtheaeggecpfcbaaGreatH2
import Derived.Test.YtheaeggecpfcbaaGreatH1
import Derived.Deep.RegionHeld3
import Derived.Sort.CutIn
set_option maxRecDepth 100000
set_option maxHeartbeats 6400000
set_option linter.unusedVariables false
set_option linter.unusedSimpArgs false
namespace Go.Proofs.YtheaeggecpfcbaaGreat
section
open Go.RowKit Go.Shelf
attribute [local go_sem] Oper.semAt_some
def encI (x:Int):Array Value:=#[.int .i64 x]
/-- What walk's iterator pays. -/
def WalkPays (ss:List (List Int)):Prop:=∀ {w:World} {a:Option Addr} {c Tn n₀ hi:Nat} {Ex Ty:Nat→Prop} (n:Nat),¬ Ty 120∧¬ Ty 23∧¬ Ty 174→4*ss.length+6≤n→BoxA w Tn 120 #[.slice a ss.length c]→Rows2 (· < n₀) w a c ss→n₀≤Tn→(∀ g,Ex g→g<w.heap.size)→¬ Ex Tn →
 PaysY Fence.wide n Tryz.prog 159 #[.pointer (some ⟨Tn,0,none⟩)] encI (KeepV n₀ Ex Ty) (fun pre x _=>∃ r,pre++x :: r=walkF ss) (fun xs _=>xs=walkF ss) (fun xs=>xs <+: walkF ss) w hi
theorem walk_step (tt:List (List Int)) (lst:List Int) (hIH:WalkPays tt) (hfit:SmallS (tt++[lst])):WalkPays (tt++[lst]):=by
 intro w a c Tn n₀ hi Ex Ty n hTy hn hTn hR hTn₀ hEx hExT;intro l J Jx W hW hhi hJ' hJx' hY' hJ0;have HJ:Hid (OwnFrom W.heap.size J):=hJ';have HJx:Hid (OwnFrom W.heap.size Jx):=hJx';have HY:Hid (∀ pre x W1,J pre W1→(∃ r,pre++x :: r=walkF (tt++[lst]))→YieldAt Fence.wide (n - 1) Tryz.prog l (encI x) W1 fun e W'=>KeepsFrom hi W1 W'∧((e=.returned (.bool true)∧J (pre++[x]) W'∧KeepV n₀ Ex Ty W1 W')∨(e=.returned (.bool false)∧Jx (pre++[x]) W'))):=hY';have HIH:Hid (WalkPays tt):=hIH;have HF:Hid (SmallS (tt++[lst])):=hfit;clear hJ' hJx' hY' hIH hfit;have hsW:=hW.size;have hTl:=hTn.lt;have TW:=hTn.below hW hTl;have hD:∀ g,g<n₀→g<w.heap.size:=fun g hg=>by omega
 have HU:Hid (Rows2 (· < n₀) W a c (tt++[lst])):=hR.imp (fun _ h=>h) (Agree.of hW hD);have hlen:(tt++[lst]).length=tt.length+1:=by simp
 rw [hlen] at TW;have hn4:10≤n:=by rw [hlen] at hn;omega
 have HL:Hid ((tt++[lst]).length=tt.length+1):=hlen;have hExW:∀ g,W.heap.size≤g→¬ Ex g:=fun g hg he=>by have:=hEx g he;omega
 have HEX:Hid (∀ g,W.heap.size≤g→¬ Ex g):=hExW;clear hTn hR hEx hExW hD hlen;have hk:tt.length+1≤c:=by have:=HU.out.1;rw [HL.out] at this;exact this
 have hcap:=HU.out.2.1;obtain ⟨b,o,rfl,hb,hrows⟩:∃ b o,a=some ⟨b,o,none⟩∧b<n₀∧∀ j,j<tt.length+1→∃ ra rc,W.cell? ⟨b,o+j,none⟩=some (.slice ra ((tt++[lst]).getD j []).length rc)∧RdN (· < n₀) W (.slice ra ((tt++[lst]).getD j []).length rc) ((tt++[lst]).getD j []):=by
  obtain ⟨_,_,h | ⟨b,o,h1,h2,h3⟩⟩:=HU.out
  · simp at h
  · exact ⟨b,o,h1,h2,fun j hj=>h3 j (by rw [HL.out];exact hj)⟩
 have HRW:Hid (∀ j,j<tt.length+1→∃ ra rc,W.cell? ⟨b,o+j,none⟩=some (.slice ra ((tt++[lst]).getD j []).length rc)∧RdN (· < n₀) W (.slice ra ((tt++[lst]).getD j []).length rc) ((tt++[lst]).getD j [])):=hrows;clear hrows;have kY:=below_alloc W (.cells #[.func (.yield l) #[] #[]] 174);have BY:=boxA_new W #[.func (.yield l) #[] #[]] 174;have TY:=TW.below kY TW.lt;have c0:=TY.cell 0 rfl;refine callsIn_of_wp_marks Tryz.func159 rfl trivial ?_ rfl;simp only [Tryz.ntmps159,List.size_toArray,List.length_cons,List.length_nil,Nat.reduceAdd,Nat.reduceSub,Array.replicate_succ,Array.replicate_zero,List.push_toArray,List.append_toArray,List.nil_append,List.cons_append]
 gi_wp2_with fail
 obtain ⟨V1,hV⟩:∃ V1,W.alloc (.cells #[.func (.yield l) #[] #[]] 174)=V1:=⟨_,rfl⟩;rw [hV] at BY TY kY c0 ⊢;clear hV
 gi_loopw [12] (fun iv wr=>∃ i:Nat,iv=.int .i64 i∧i≤tt.length+1∧wr=V1∧∀ j,j<i→(tt++[lst]).getD j []≠[]) (fun iv _=>tt.length+1 - (intOf iv).toNat)
 case atStart=>exact ⟨0,rfl,Nat.zero_le _,rfl,fun j hj=>by omega⟩
 case round=>
  obtain ⟨i,rfl,hil,hwr,hne⟩:=hrel;obtain rfl:=hwr.symm;clear hwr;have HNE:Hid (∀ j,j<i→(tt++[lst]).getD j []≠[]):=hne;clear hne;by_cases hlt:i<tt.length+1
  · obtain ⟨ra,rc,hc,hRr⟩:=HRW.out i hlt
    have hcv:=(kY.cell (p:=⟨b,o+i,none⟩) (by show b<W.heap.size;omega)).trans hc;clear hc hRr;by_cases he:(tt++[lst]).getD i []=[]
    · rw [he] at hcv
      have HE:Hid (walkF (tt++[lst])=[]):=walkF_empty (by rw [← he,List.getD_eq_getElem?_getD,List.getElem?_eq_getElem (by rw [HL.out];exact hlt)];exact List.getElem_mem _);clear he
      gi_wp2
      exact ⟨_,results_none rfl _ _ _,⟨_,rfl⟩,Or.inl ⟨[],HE.out.symm,HJ.out [] W V1 none hJ0 (grown_below kY) (fun r e=>by cases e)⟩⟩
    · have hz:0<((tt++[lst]).getD i []).length:=List.length_pos_iff.2 he
      have HX:Hid (∀ j,j<i+1→(tt++[lst]).getD j []≠[]):=fun j hj=>by
       rcases Nat.lt_or_ge j i with h | h
       · exact HNE.out j h
       · obtain rfl:j=i:=by omega
         exact he
      generalize ((tt++[lst]).getD i []).length=m at *;clear he
      gi_wp2_with fail
      exact ⟨⟨i+1,by simp,by omega,trivial,HX.out⟩,by simp [intOf];omega⟩
  · obtain rfl:i=tt.length+1:=by omega
    gi_wp2_with fail
    obtain ⟨ra,rc,hc,hRl⟩:=HRW.out tt.length (by omega);rw [show (tt++[lst]).getD tt.length []=lst by simp] at hc hRl;have kA:=below_alloc V1 (.cells #[.slice none 0 0] 23);have BA:=boxA_new V1 #[.slice none 0 0] 23;obtain ⟨A,hA⟩:∃ A,(V1.alloc (.cells #[.slice none 0 0] 23)).drew=A:=⟨_,rfl⟩;have hsA:A.heap.size=V1.heap.size+1:=by rw [← hA];exact World.size_alloc _ _
    replace kA:Below V1.heap.size V1 A:=by rw [← hA];exact kA.trans ⟨rfl,rfl,rfl,Nat.le_refl _,fun _ _=>rfl⟩
    replace BA:BoxA A V1.heap.size 23 #[.slice none 0 0]:=by rw [← hA];exact BA
    have TA:=TY.below kA TY.lt;have c2:=TA.cell 0 rfl;have e2:A.cell? ⟨b,o+tt.length,none⟩=some (.slice ra lst.length rc):=(kA.cell (p:=⟨b,o+tt.length,none⟩) (by have:=kY.size;show b<V1.heap.size;omega)).trans ((kY.cell (p:=⟨b,o+tt.length,none⟩) (by show b<W.heap.size;omega)).trans hc);have b0:=BA.cell 0 rfl;have f0:=BA.frozen 0;have d0:Below V1.heap.size V1 V1.drew:=⟨rfl,rfl,rfl,Nat.le_refl _,fun _ _=>rfl⟩;have c1:=(TY.below d0 TY.lt).cell 0 rfl;have e1:V1.drew.cell? ⟨b,o+tt.length,none⟩=some (.slice ra lst.length rc):=(kY.cell (p:=⟨b,o+tt.length,none⟩) (by show b<W.heap.size;omega)).trans hc;have hw1:IntKind.i64.wrap ((tt.length:Int)+1 - 1)=(tt.length:Int):=by rw [IntKind.wrap_i64];omega
    have i0:(0:Int)≤(tt.length:Int):=by omega
    have i1:(tt.length:Int)<(tt.length:Int)+1:=by omega
    have i2:(tt.length:Int)≤(c:Int):=by omega
    have i3:tt.length≤c:=by omega
    have i4:(c<tt.length)=False:=by simp;omega
    refine wpIn_noPanic ?_
    gi_region
    refine noPanic_normal ?_;have hbV:b<V1.heap.size:=by have:=kY.size;omega
    have BL:=BA.one (.slice ra lst.length rc);have YA:=BY.below kA BY.lt;have TL:=TA.other (p:=⟨V1.heap.size,0,none⟩) (fun e=>by have:=TY.lt;simp at e;omega) (.slice ra lst.length rc);have YL:=YA.other (p:=⟨V1.heap.size,0,none⟩) (fun e=>by have:=BY.lt;simp at e;omega) (.slice ra lst.length rc);have kL:Below V1.heap.size V1 (A.setCell ⟨V1.heap.size,0,none⟩ (.slice ra lst.length rc)):=kA.setCell (p:=⟨V1.heap.size,0,none⟩) (Nat.le_refl _) _;have hsL:(A.setCell ⟨V1.heap.size,0,none⟩ (.slice ra lst.length rc)).heap.size=V1.heap.size+1:=by rw [set1_size];exact hsA
    obtain ⟨B,hB⟩:∃ B,A.setCell ⟨V1.heap.size,0,none⟩ (.slice ra lst.length rc)=B:=⟨_,rfl⟩;rw [hB] at BL TL YL kL hsL ⊢;clear hB b0 f0 c1 c2 e1 e2 BA TA YA kA hsA hA d0
    gi_wp2_with fail
    refine ⟨trivial,fun _=>by omega,?_⟩;refine (callsIn_wide.2 (walk_any _ _ _ _)).mono ?_;rintro e w2 ⟨rfl,rfl⟩
    gi_wp2_with fail
    have kS:=below_alloc B (.cells #[.slice (some ⟨b,o,none⟩) tt.length c] 120);have SB:=boxA_new B #[.slice (some ⟨b,o,none⟩) tt.length c] 120;rw [hsL] at SB;have sW0:(B.alloc (.cells #[.slice (some ⟨b,o,none⟩) tt.length c] 120)).heap.size=V1.heap.size+1+1:=by rw [World.size_alloc,hsL]
    have BL0:=BL.below kS BL.lt;have YL0:=YL.below kS YL.lt;have kW0:Below W.heap.size W (B.alloc (.cells #[.slice (some ⟨b,o,none⟩) tt.length c] 120)):=(kY.trans (kL.mono kY.size)).trans (kS.mono (by have:=kY.size;omega));obtain ⟨W0,hW0⟩:∃ W0,B.alloc (.cells #[.slice (some ⟨b,o,none⟩) tt.length c] 120)=W0:=⟨_,rfl⟩;rw [hW0] at SB sW0 BL0 YL0 kW0 ⊢;clear hW0 kS BL YL TL kL hsL HNE;have hsV:=kY.size;have hnY:¬ Ex W.heap.size:=HEX.out _ (Nat.le_refl _);have hnL:¬ Ex V1.heap.size:=HEX.out _ (by omega);have hnS:¬ Ex (V1.heap.size+1):=HEX.out _ (by omega);have hJ00:J [] W0:=HJ.out [] W W0 none hJ0 (grown_below kW0) (fun r e=>by cases e);have HRL:Hid (RdN (· < n₀) W (.slice ra lst.length rc) lst):=hRl;have hrows:Rows2 (· < n₀) W0 (some ⟨b,o,none⟩) c tt:=(HU.out.front).imp (fun _ h=>h) (Agree.of kW0 (fun g hg=>by omega));have hle:W.heap.size≤W0.heap.size:=kW0.size;have hExW:∀ g,Ex g→g<W0.heap.size:=fun g hg=>Decidable.byContradiction fun h=>HEX.out g (Nat.le_trans hle (Nat.le_of_not_lt h)) hg;have HSEQ:=HIH.out (w:=W0) (a:=some ⟨b,o,none⟩) (c:=c) (Tn:=V1.heap.size+1) (n₀:=n₀) (hi:=W0.heap.size+2) (Ex:=Ex) (Ty:=Ty) (n - 1) hTy (by have:=HL.out;rw [HL.out] at hn;omega) SB hrows (by omega) hExW hnS;have HSQ:Hid _:=HSEQ;clear HSEQ hrows HIH hRl hc hExW;obtain ⟨mk,hmk⟩:∃ mk:Int→Act,∀ x,mk x={ tmps:=#[.func (.yield l) #[] #[],.pointer (some ⟨Tn,0,none⟩),.pointer (some ⟨W.heap.size,0,none⟩),undef,u4,.slice (some ⟨b,o,none⟩) tt.length c,.pointer (some ⟨V1.heap.size,0,none⟩),.int .i64 x,undef,undef,.slice (some ⟨b,o,none⟩) (tt.length+1) c,.int .i64 ((tt.length:Int)+1),.int .i64 ((tt.length:Int)+1),.bool false,u14,u15,u16,u17,u18,u19,.slice (some ⟨b,o,none⟩) (tt.length+1) c,.int .i64 ((tt.length:Int)+1),.bool false,undef,undef,.slice (some ⟨b,o,none⟩) (tt.length+1) c,.slice (some ⟨b,o,none⟩) (tt.length+1) c,.int .i64 ((tt.length:Int)+1),.int .i64 (tt.length:Int),.slice (some ⟨b,o,none⟩) tt.length c,.slice (some ⟨b,o,none⟩) (tt.length+1) c,.slice (some ⟨b,o,none⟩) (tt.length+1) c,.int .i64 ((tt.length:Int)+1),.int .i64 (tt.length:Int),.pointer (some ⟨b,o+tt.length,none⟩),.slice ra lst.length rc,.slice (some ⟨b,o,none⟩) tt.length c,.func (.func 159) #[] #[.pointer (some ⟨V1.heap.size+1,0,none⟩)],.int .i64 x,undef,undef,undef,undef,undef,undef,undef,undef,undef,undef,undef,undef,undef],defers:=[] }:=⟨_,fun _=>rfl⟩;refine wpIn_range_paysY rfl (by omega) (gf:=159) (lb:=#[.pointer (some ⟨V1.heap.size+1,0,none⟩)]) rfl trivial (enters_of Tryz.func159 (by kernel_rfl) rfl)
     HSQ.out (fun h h'=>h.trans h') (fun W l o o' hl ho hc _=>KeepV.put W l o o' (by omega) ho hc) (Below.refl _ _) (fun _=>rfl)
     (fun pre W'=>J (alongF lst pre) W'∧KeepV n₀ Ex Ty W0 W') ?hI ⟨hJ00,KeepV.refl _ _ _ _⟩ ?hS
     (fun c' pre W'=>c'=.ret∧∃ ys,ys <+: walkF (tt++[lst])∧Jx ys W') ?hIx
     (fun pre x a' W'=>(∃ r,pre++x :: r=walkF tt)∧a'=mk x) ?hAx ?assign ?body ?done ?stop
    case hI=>
     rintro s A B row ⟨h1,h2⟩ hg hrow;exact ⟨HJ.out _ A B row h1 hg (fun r e=>⟨by have:=(hrow r e).1;omega,(hrow r e).2⟩),h2.grown hg (by have:=h2.below.size;omega) (fun r e=>⟨by have:=(hrow r e).1;omega,(hrow r e).2⟩)⟩
    case hS=>
     rintro s A B row h hg hrow;exact h
    case hIx=>
     rintro c' s A B row ⟨h1,ys,h2,h3⟩ hg hrow;exact ⟨h1,ys,h2,HJx.out _ A B row h3 hg (fun r e=>⟨by have:=(hrow r e).1;omega,(hrow r e).2⟩)⟩
    case assign=>
     rintro l' pre x V K hi hG hK;dsimp only [encI]
     gi_wp2
     exact hK _ _ (KeepsOthers.refl _ |>.from _) (KeepV.refl _ _ _ _) hi ⟨hG,(hmk x).symm⟩
    case hAx=>
     rintro pre x a' _ A B row h hg hrow;exact h
    case body=>
     rintro l' pre x a' V ⟨hJv,hkv⟩ ⟨⟨rr,hG⟩,rfl⟩;rw [hmk];have cL:=(hkv.box BL0 (by omega) hnL hTy.2.1).cell 0 rfl
     gi_wp2_with fail
     gi_loopw [41] (fun iv wr=>∃ i:Nat,iv=.int .i64 i∧i≤lst.length∧J (alongF lst pre++(lst.take i).map (onw x)) wr∧KeepV n₀ Ex Ty W0 wr∧KeepV n₀ Ex Ty V wr∧KeepsFrom W0.heap.size V wr) (fun iv _=>lst.length - (intOf iv).toNat)
     case atStart=>exact ⟨0,rfl,Nat.zero_le _,by rw [List.take_zero,List.map_nil,List.append_nil];exact hJv,hkv,KeepV.refl _ _ _ _,(KeepsOthers.refl _ |>.from _)⟩
     case round=>
      obtain ⟨i,rfl,hil,hJs,hk0,hkV,hkf⟩:=hrel;by_cases hlt:i<lst.length
      · obtain ⟨g1,o1,hra,hg1,hc1⟩:=HRL.out.ptr (by omega)
        subst hra;have E1:=(hk0.below.cell (p:=⟨g1,o1+i,none⟩) hg1).trans ((kW0.cell (p:=⟨g1,o1+i,none⟩) (by show g1<W.heap.size;omega)).trans (hc1 i hlt));have hmem:lst.getD i 0∈lst:=by rw [List.getD_eq_getElem?_getD,List.getElem?_eq_getElem hlt];exact List.getElem_mem hlt
        have hxm:x∈walkF tt:=by rw [← hG];simp
        have HON:Hid (∀ u,Calls Tryz.prog 160 #[.int .i64 x,.int .i64 (lst.getD i 0)] u fun e w'=>e=.returned (.int .i64 (onw x (lst.getD i 0)))∧w'=u):=fun u=>onwards_any _ _ (onw_fit (HF.out.front.place hxm).2 (HF.out.2 lst (by simp) _ hmem).2) u;have HTK:Hid ((lst.take i).map (onw x)++[onw x (lst.getD i 0)]=(lst.take (i+1)).map (onw x)):=take_map_snoc hlt;have HNX:=along_next hG hlt;have HPR:Hid ((alongF lst pre++(lst.take (i+1)).map (onw x)) <+: walkF (tt++[lst])):=by
         obtain ⟨r,hr⟩:=HNX;refine ⟨r,?_⟩;rw [← hr,← HTK.out];simp [List.append_assoc]
        have cY:=(hk0.box YL0 (by omega) hnY hTy.2.2).cell 0 rfl;have HYD:Hid _:=HY.out (alongF lst pre++(lst.take i).map (onw x)) (onw x (lst.getD i 0)) wr.drew (HJ.out _ wr _ none hJs ⟨rfl,rfl,rfl,Nat.le_refl _,fun _ _ _=>rfl⟩ (fun r e=>by cases e)) HNX;have hlb:=(HRL.out.bounds).1;have hlb2:=(HRL.out.bounds).2;have hwi:IntKind.i64.wrap ((i:Int)+1)=(i:Int)+1:=by rw [IntKind.wrap_i64];omega
        clear HNX hxm hmem hc1 hJs hlb hlb2;generalize lst.getD i 0=q at *;generalize onw x q=y at *
        gi_wp2_with fail
        refine wpIn_noPanic ?_;refine wpIn_region_any (by kernel_rfl) ?_;refine wk14_000000 (W:=wr.drew) (Yb:=W.heap.size) (x:=x) (q:=q) (y:=y) (l2:=l) cY HON.out (by omega) HYD.out ?_;intro r wc h4;refine noPanic_normal ?_;have hdone:True:=trivial
        · clear hdone
          have HKF:Hid (∀ C:World,KeepsFrom hi wr.drew C→KeepsFrom W0.heap.size V C):=by
           exact fun C kf=>⟨Nat.le_trans hkf.size kf.size,fun k o hk hh ho=>kf.same k o (by omega) (hkf.same k o hk hh ho) ho⟩
          have HJN:Hid (∀ C:World,J (alongF lst pre++(lst.take i).map (onw x)++[y]) C→J (alongF lst pre++(lst.take (i+1)).map (onw x)) C):=fun C h=>by rw [List.append_assoc,HTK.out] at h;exact h
          have HJX:Hid (∀ C:World,Jx (alongF lst pre++(lst.take i).map (onw x)++[y]) C→Jx (alongF lst pre++(lst.take (i+1)).map (onw x)) C):=fun C h=>by rw [List.append_assoc,HTK.out] at h;exact h
          cases r with
          | true=>
           obtain ⟨_,kf,hJ4,hK4⟩ | ⟨h,_⟩:=h4
           rotate_left
           · cases h
           gi_wp2_with fail
           exact ⟨⟨i+1,by simp,by omega,HJN.out _ hJ4,hk0.trans hK4.undrew,hkV.trans hK4.undrew,by have h:=HKF.out _ kf;first | exact h | (rw [sW0] at h;exact h)⟩,by simp [intOf];omega⟩
          | false=>
           obtain ⟨h,_⟩ | ⟨_,kf,hJ4⟩:=h4
           · cases h
           gi_wp2_with fail
           exact ⟨by have h:=HKF.out _ kf;first | exact h | (rw [sW0] at h;exact h),rfl,_,HPR.out,HJX.out _ hJ4⟩
      · obtain rfl:i=lst.length:=by omega
        rw [List.take_length] at hJs
        gi_wp2_with fail
        exact ⟨hkf,hkV,by rw [alongF_snoc];exact hJs,hk0⟩
    case done=>
     rintro Dn xs V hDn hS ⟨hJv,hkv⟩ hdef;have HF4:Hid (J (walkF (tt++[lst])) (V.putObj Dn (.deferred none))):=by
      rw [walkF_snoc,← hS];exact HJ.out.putObj _ hJv (by omega) hdef rfl
     clear hS hJv hkv
     gi_wp2
     refine ⟨by simp,.inl ⟨_,_,rfl,run_takeDeferred hdef,?_⟩⟩;exact ⟨_,results_none rfl _ _ _,⟨_,rfl⟩,Or.inl HF4.out⟩
    case stop=>
     rintro Dn c' xs V hDn hSp ⟨rfl,ys,hys,hJv⟩ hdef;have HF4:Hid (∃ ys,ys <+: walkF (tt++[lst])∧Jx ys (V.putObj Dn (.deferred none))):=⟨ys,hys,HJx.out.putObj _ hJv (by omega) hdef rfl⟩;clear hys hJv
     gi_wp2
     refine ⟨by simp,.inl ⟨_,_,rfl,run_takeDeferred hdef,?_⟩⟩;exact ⟨_,results_none rfl _ _ _,⟨_,rfl⟩,Or.inr HF4.out⟩
end
section
open Go.RowKit Go.Shelf
attribute [local go_sem] Oper.semAt_some
theorem walk_none:WalkPays []:=by
 intro w a c Tn n₀ hi Ex Ty n hTy hn hTn hR hTn₀ hEx hExT;intro l J Jx W hW hhi hJ' hJx' hY' hJ0;have HJ:Hid (OwnFrom W.heap.size J):=hJ';have HJx:Hid (OwnFrom W.heap.size Jx):=hJx';have hsW:=hW.size;have hTl:=hTn.lt;have TW:=hTn.below hW hTl;have kY:=below_alloc W (.cells #[.func (.yield l) #[] #[]] 174);have BY:=boxA_new W #[.func (.yield l) #[] #[]] 174;have TY:=TW.below kY TW.lt;have c0:=TY.cell 0 rfl;have y0:=BY.cell 0 rfl;obtain ⟨V1,hV⟩:∃ V1,W.alloc (.cells #[.func (.yield l) #[] #[]] 174)=V1:=⟨_,rfl⟩;rw [hV] at c0 y0 kY;have hJ1:J [] V1:=HJ.out [] W V1 none hJ0 (grown_below kY) (fun r e=>by cases e);obtain ⟨fn,tmps,assign,body,hy,hRd⟩:=hY' [] 0 V1 hJ1 ⟨[],rfl⟩;dsimp only [encI] at hy;have HR:Hid (∀ m',RoundIn Fence.wide m' Tryz.prog l fn tmps assign body V1 _):=fun m'=>went_wide hRd;clear hRd hY' hJ' hJx' hTn hR hJ1;refine callsIn_of_wp_marks Tryz.func159 rfl trivial ?_ rfl;simp only [Tryz.ntmps159,List.size_toArray,List.length_cons,List.length_nil,Nat.reduceAdd,Nat.reduceSub,Array.replicate_succ,Array.replicate_zero,List.push_toArray,List.append_toArray,List.nil_append,List.cons_append]
 gi_wp2_with fail
 gi_loopw [12] (fun iv wr=>iv=.int .i64 0∧wr=V1) (fun _ _=>0)
 case atStart=>exact ⟨rfl,rfl⟩
 case round=>
  obtain ⟨rfl,hwr⟩:=hrel;obtain rfl:=hwr.symm
  gi_wp2_with fail
  refine ⟨fun _=>by omega,(HR.out _).mono ?_⟩;rintro e W4 ⟨r,rfl,h4⟩;have HF:Hid ((∃ xs,xs=walkF []∧J xs W4)∨(∃ xs,xs <+: walkF []∧Jx xs W4)):=by
   rcases h4 with ⟨_,_,h,_⟩ | ⟨_,_,h⟩
   · exact Or.inl ⟨_,rfl,h⟩
   · exact Or.inr ⟨_,List.prefix_refl _,h⟩
  clear h4
  gi_wp2
  exact ⟨_,results_none rfl _ _ _,⟨_,rfl⟩,HF.out⟩
theorem walk_pays:∀ (k:Nat) (ss:List (List Int)),ss.length=k→SmallS ss→WalkPays ss
 | 0,ss,h,_=>by
  obtain rfl:ss=[]:=List.eq_nil_of_length_eq_zero h;exact walk_none
 | k+1,ss,h,hs=>by
  obtain ⟨tt,l,rfl⟩:∃ tt l,ss=tt++[l]:=by
   cases hr:ss.reverse with
   | nil=>rw [List.reverse_eq_nil_iff] at hr;rw [hr] at h;simp at h
   | cons x r=>exact ⟨r.reverse,x,by rw [← List.reverse_reverse ss,hr,List.reverse_cons]⟩
  rw [List.length_append,List.length_singleton] at h;exact walk_step tt l (walk_pays k tt (by omega) hs.front) hs
end
end Go.Proofs.YtheaeggecpfcbaaGreat
