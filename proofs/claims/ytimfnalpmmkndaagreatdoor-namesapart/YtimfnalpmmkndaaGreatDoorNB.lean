/- slices.Contains of texts; (*names.frame).localises. -/
import Derived.Test.YtimfnalpmmkndaaGreatDoorSA
import Derived.Test.YtimfnalpmmkndaaGreatDoorNA
import Derived.Deep.RegionHeld3
set_option maxRecDepth 100000
set_option maxHeartbeats 6400000
set_option linter.unusedVariables false
set_option linter.unusedSimpArgs false
namespace Go.Proofs.YtimfnalpmmkndaaGreatDoor
variable {B c tb i fuel:Nat} {w:World} {a:Act} {ss:List ByteArray} {ls:List (List ByteArray)} {ua:Option Addr} {listed:Array Bool}
section
open Go.RowKit
theorem same_textN (x y:ByteArray):(x.toList==y.toList)=decide (x=y):=by
 by_cases h:x=y
 · rw [decide_eq_true h,h];simp
 · rw [decide_eq_false h,beq_eq_false_iff_ne]
   exact fun e=>h (ByteArray.ext (Array.toList_inj.mp (by rw [← ByteArray.toList_eq,← ByteArray.toList_eq];exact e)))
theorem indexS_any {a:Option Addr} (x:ByteArray) (h:RdS B w (.slice a ss.length c) ss) :
    Calls Tryz.prog 145 #[.slice a ss.length c,.string x] w fun e w'=>∃ r:Int,e=.returned (.int .i64 r)∧(0≤r↔x∈ss)∧w'=w:=by
 have HR:Hid (RdS B w (.slice a ss.length c) ss):=h;obtain ⟨hc1,hc2⟩:=h.cap;clear h;go_enter Tryz.func145,Tryz.ntmps145;go_wp2
 go_loopw [8] (fun iv wr=>∃ i:Nat,iv=.int .i64 i∧i≤ss.length∧Hid (x ∉ ss.take i)∧wr=w) (fun iv _=>ss.length - (intOf iv).toNat)
 case atStart=>exact ⟨0,rfl,Nat.zero_le _,(by unfold Hid;simp),rfl⟩
 case round=>
  obtain ⟨i,rfl,hil,HN,hw⟩:=hrel;obtain rfl:=hw.symm;by_cases hlt:i<ss.length
  · obtain ⟨g,o,rfl,hg,hc⟩:=HR.out.ptr (by omega)
    have q:=hc i hlt;have hgd:ss.getD i noT=ss[i]:=by simp [List.getD,hlt]
    have HTk:Hid (ss.take (i+1)=ss.take i++[ss.getD i noT]∧ss.getD i noT∈ss):=⟨by rw [hgd,List.take_append_getElem hlt],by rw [hgd];exact List.getElem_mem hlt⟩;have hst:=same_textN x (ss.getD i noT);clear hc hgd;generalize ss.getD i noT=K at *;by_cases he:x=K
    · rw [decide_eq_true he] at hst
      have HQ:Hid ((0:Int)≤i↔x∈ss):=⟨fun _=>by rw [he];exact HTk.out.2,fun _=>by omega⟩;clear he HTk HN;go_wp2
      go_ret
      exact ⟨i,rfl,HQ.out,rfl⟩
    · rw [decide_eq_false he] at hst
      have HN2:Hid (x ∉ ss.take (i+1)):=by
       unfold Hid;rw [HTk.out.1,List.mem_append];rintro (h | h)
       · exact HN.out h
       · exact he (List.mem_singleton.1 h)
      clear he HTk HN;go_wp2
      go_roundw
      case rel=>exact ⟨i+1,by go_num,by omega,HN2,(by first | trivial | rfl)⟩
      case measure=>simp [intOf];omega
  · have HQ:Hid ((0:Int)≤-1↔x∈ss):=by
     have:x ∉ ss:=by rw [← List.take_of_length_le (show ss.length≤i by omega)];exact HN.out
     exact ⟨fun h=>by omega,fun h=>absurd h this⟩
    go_wp2
    go_ret
    exact ⟨-1,rfl,HQ.out,rfl⟩
theorem containsS_any {a:Option Addr} (x:ByteArray) (h:RdS B w (.slice a ss.length c) ss) :
    Calls Tryz.prog 107 #[.slice a ss.length c,.string x] w fun e w'=>e=.returned (.bool (memT x ss))∧w'=w:=by
 go_enter Tryz.func107,Tryz.ntmps107
 go_wp2_with fail
 refine (indexS_any x h).mono ?_;rintro e w' ⟨r,rfl,hr,hw⟩;obtain rfl:=hw.symm;have HR:Hid (memT x ss=decide (0≤r)):=by
  unfold Hid;by_cases hm:x∈ss
  · rw [memT_iff.2 hm,decide_eq_true (hr.2 hm)]
  · rw [memT_no hm,decide_eq_false (fun h=>hm (hr.1 h))]
 clear hr;go_wp2
 go_ret
 exact ⟨by rw [HR.out];rfl,rfl⟩
theorem localises_any {a:Option Addr} {b o:Nat} (x:ByteArray) (hc:w.cell? ⟨b,o,none⟩=some (.slice a ss.length c)) (h:RdS B w (.slice a ss.length c) ss) :
    Calls Tryz.prog 75 #[.pointer (some ⟨b,o,none⟩),.string x] w fun e w'=>e=.returned (.bool (memT x ss))∧w'=w:=by
 have HR:Hid (RdS B w (.slice a ss.length c) ss):=h;clear h;go_enter Tryz.func75,Tryz.ntmps75
 go_wp2_with fail
 refine (containsS_any x HR.out).mono ?_;rintro e w' ⟨rfl,hw⟩;obtain rfl:=hw.symm;go_wp2
 go_ret
 exact ⟨rfl,rfl⟩
end
section
open Go.RowKit Go.Shelf
attribute [local go_sem] Oper.semAt_some
theorem boxA_gr {W W':World} {ty:Nat} {xs:Array Value} {row:Option Nat} (h:BoxA W B ty xs) (hg:W.grownBy W' row) (hr:row≠some B):BoxA W' B ty xs:=by
 unfold BoxA at h ⊢;rw [hg.block B (lt_of_block h) (fun e=>hr e.symm)];exact h
theorem boxA_p1 {w:World} {B ty:Nat} {u:Value} (h:BoxA w B ty #[u]) (v:Value):BoxA (w.setCell ⟨B,0,none⟩ v) B ty #[v]:=by
 unfold BoxA at h ⊢;simp [World.setCell,Array.getElem?_modify,h]
def idxF (ls:List (List ByteArray)) (x:ByteArray):Nat→Option Nat
 | 0=>none
 | k+1=>if memT x (ls.getD k [])=true then some k else idxF ls x k
def placeF (ua:Option Addr) (tb:Nat) (ls:List (List ByteArray)) (x:ByteArray):Addr:=match idxF ls x ls.length with
 | some k=>upA ua k
 | none=>⟨tb,0,none⟩
theorem idxF_some {x:ByteArray} {k:Nat} (hk:memT x (ls.getD k [])=true):∀ n,k<n→(∀ j,k<j→j<n→memT x (ls.getD j [])=false)→idxF ls x n=some k
 | 0,h,_=>by omega
 | n+1,h,hj=>by
  rw [idxF];by_cases e:k=n
  · subst e;rw [if_pos hk]
  · rw [if_neg (by rw [hj n (by omega) (by omega)];simp)]
    exact idxF_some hk n (by omega) (fun j h1 h2=>hj j h1 (by omega))
theorem idxF_none {x:ByteArray}:∀ n,(∀ j,j<n→memT x (ls.getD j [])=false)→idxF ls x n=none
 | 0,_=>rfl
 | n+1,h=>by
  rw [idxF,if_neg (by rw [h n (by omega)];simp)];exact idxF_none n (fun j hj=>h j (by omega))
structure TabL (w:World) (tb:Nat) (F0:FRep) (l0:List ByteArray) (ua:Option Addr) (ucap:Nat) (rs:List FRep) (ls:List (List ByteArray)):Prop where
 box:BoxA w tb 77 #[.slice F0.la F0.ln F0.lc,.map F0.mb,.slice ua rs.length ucap]
 up:UpIs w.heap.size w ua ucap rs
 len:ls.length=rs.length
 out:F0.ln=l0.length∧RdS w.heap.size w (.slice F0.la l0.length F0.lc) l0
 row:∀ i,i<rs.length→(rs.getD i fr0).ln=(ls.getD i []).length∧RdS w.heap.size w (.slice (rs.getD i fr0).la (ls.getD i []).length (rs.getD i fr0).lc) (ls.getD i [])
theorem TabL.below {w':World} {F0:FRep} {l0:List ByteArray} {ucap:Nat} {rs:List FRep} (h:TabL w tb F0 l0 ua ucap rs ls) (k:Below w.heap.size w w'):TabL w' tb F0 l0 ua ucap rs ls:=by
 refine ⟨h.box.below k h.box.lt,?_,h.len,⟨h.out.1,(h.out.2.below k (Nat.le_refl _)).mono k.size⟩,fun i hi=>⟨(h.row i hi).1,((h.row i hi).2.below k (Nat.le_refl _)).mono k.size⟩⟩;obtain ⟨h1,h2,h3⟩:=h.up.below k (Nat.le_refl _);refine ⟨h1,h2,?_⟩;rcases h3 with h3 | ⟨ub,h3,h4,h5⟩
 · exact Or.inl h3
 · exact Or.inr ⟨ub,h3,by have:=k.size;omega,h5⟩
theorem places_at {n:Nat} {pre r:List Addr} {x:Addr} (h:pre++x :: r=placesF ua tb n):(pre.length<n∧x=upA ua (n - 1 - pre.length))∨(pre.length=n∧x=⟨tb,0,none⟩):=by
 have h1:(placesF ua tb n)[pre.length]? = some x:=by rw [← h];simp
 unfold placesF at h1;rcases Nat.lt_trichotomy pre.length n with hl | hl | hl
 · rw [List.getElem?_append_left (by simpa using hl),List.getElem?_map,List.getElem?_reverse (by simpa using hl),List.length_range,List.getElem?_range (by omega)] at h1
   exact Or.inl ⟨hl,(Option.some.inj h1).symm⟩
 · rw [List.getElem?_append_right (by simp;omega)] at h1
   simp [hl] at h1;exact Or.inr ⟨hl,h1.symm⟩
 · rw [List.getElem?_eq_none (by simp;omega)] at h1
   cases h1
theorem place_any {F0:FRep} {l0:List ByteArray} {ucap:Nat} {rs:List FRep} (x:ByteArray) (hT:TabL w tb F0 l0 ua ucap rs ls) (hl0:l0=[]) :
    Calls Tryz.prog 45 #[.pointer (some ⟨tb,0,none⟩),.string x] w fun e w'=>e=.returned (.pointer (some (placeF ua tb ls x)))∧Below w.heap.size w w':=by
 have g1:=below_alloc w (.cells #[.string x] 9);have g2:=below_alloc (w.alloc (.cells #[.string x] 9)) (.cells #[.pointer none] 92);have BX:=(boxA_new w #[.string x] 9).below g2 (by simp);have BR:=boxA_new (w.alloc (.cells #[.string x] 9)) #[.pointer none] 92;rw [World.size_alloc] at BR;have g:Below w.heap.size w _:=g1.trans (g2.mono g1.size);have s0:((w.alloc (.cells #[.string x] 9)).alloc (.cells #[.pointer none] 92)).heap.size=w.heap.size+1+1:=by simp
 clear g1 g2;refine (callsIn_wide (n:=9)).1 ?_;refine callsIn_of_wp_marks Tryz.func45 rfl trivial ?_ rfl;simp only [Tryz.ntmps45,List.size_toArray,List.length_cons,List.length_nil,Nat.reduceAdd,Nat.reduceSub,Array.replicate_succ,Array.replicate_zero,List.push_toArray,List.append_toArray,List.nil_append,List.cons_append]
 gi_wp2_with fail
 refine ⟨trivial,?_⟩;refine (callsIn_wide.2 (frames_any _ _)).mono ?_;rintro e w2 ⟨rfl,rfl⟩
 gi_wp2_with fail
 have kB:=below_alloc ((w.alloc (.cells #[.string x] 9)).alloc (.cells #[.pointer none] 92)) (.cells #[.pointer (some ⟨tb,0,none⟩)] 30);have BT:=boxA_new ((w.alloc (.cells #[.string x] 9)).alloc (.cells #[.pointer none] 92)) #[.pointer (some ⟨tb,0,none⟩)] 30;rw [s0] at BT;have BX0:=BX.below kB (by rw [s0];omega);have BR0:=BR.below kB (by rw [s0];omega);have kW0:Below w.heap.size w _:=g.trans (kB.mono (by rw [s0];omega));have sW0:(((w.alloc (.cells #[.string x] 9)).alloc (.cells #[.pointer none] 92)).alloc (.cells #[.pointer (some ⟨tb,0,none⟩)] 30)).heap.size=w.heap.size+1+1+1:=by simp
 obtain ⟨W0,hW0⟩:∃ W0,((w.alloc (.cells #[.string x] 9)).alloc (.cells #[.pointer none] 92)).alloc (.cells #[.pointer (some ⟨tb,0,none⟩)] 30)=W0:=⟨_,rfl⟩;rw [hW0] at BT BX0 BR0 kW0 sW0 ⊢;clear hW0 kB BX BR g s0;have htb:=hT.box.lt;have hseq:=frames_pays (w:=W0) (rs:=rs) (F0:=F0) (ua:=ua) (ucap:=ucap) (tb:=tb) (Tn:=w.heap.size+1+1) (n₀:=w.heap.size) (hi:=W0.heap.size+2) (Ex:=fun _=>False) 8 (by omega) BT (hT.box.below kW0 htb) (hT.up.below kW0 (Nat.le_refl _)) htb (by omega) (fun _ h=>h.elim) (fun h=>h);have HSEQ:Hid _:=hseq;have HT:Hid (TabL w tb F0 l0 ua ucap rs ls):=hT;have hlen:=hT.len;clear hseq hT;refine wpIn_range_paysY rfl (by omega) (gf:=111) (lb:=#[.pointer (some ⟨w.heap.size+1+1,0,none⟩)]) rfl trivial (enters_of Tryz.func111 (by kernel_rfl) rfl)
  HSEQ.out
  (fun h h'=>h.trans h') (fun W l o o' hl ho hc _=>KeepE.put W l o o' (by omega) ho hc) (Below.refl _ _) (fun _=>rfl)
  (fun pre V=>(∀ j,j<pre.length→j<rs.length→memT x (ls.getD (rs.length - 1 - j) [])=false)∧Below W0.heap.size W0 V)
  ?hI ⟨(fun j hj=>by simp at hj),Below.refl _ _⟩ ?hS
  (fun c pre V=>c=.ret∧BoxA V (w.heap.size+1) 92 #[.pointer (some (placeF ua tb ls x))]∧Below w.heap.size w V∧W0.heap.size≤V.heap.size) ?hIx
  (fun pre y a' V=>(∃ r,pre++y :: r=placesF ua tb rs.length)∧a'={ tmps:=#[.pointer (some ⟨tb,0,none⟩),.string x,undef,.pointer (some ⟨w.heap.size,0,none⟩),.pointer (some ⟨w.heap.size+1,0,none⟩),.pointer (some y),.pointer (some ⟨tb,0,none⟩),.func (.func 111) #[] #[.pointer (some ⟨w.heap.size+1+1,0,none⟩)],.pointer (some y),undef,undef,undef,undef,undef,undef,undef],defers:=[] })
  ?hAx ?assign ?body ?done ?stop
 case hI=>
  rintro s A B row ⟨h1,h2⟩ hg hrow;exact ⟨h1,h2.grown hg h2.size (fun k e=>(hrow k e).1)⟩
 case hS=>
  rintro s A B row h hg hrow;exact h
 case hIx=>
  rintro c s A B row ⟨h1,h2,h3,h4⟩ hg hrow;exact ⟨h1,boxA_gr h2 hg (fun e=>by have:=(hrow _ e).1;omega),h3.grown hg (by omega) (fun k e=>by have:=(hrow k e).1;omega),by have:=hg.size;omega⟩
 case hAx=>
  rintro pre y a' _ A B row h hg hrow;exact h
 case assign=>
  rintro l pre y V K hi hG hK;dsimp only [encA]
  gi_wp2
  exact hK _ _ (KeepsOthers.refl _ |>.from _) (KeepE.refl _ _ _) hi ⟨hG,rfl⟩
 case body=>
  rintro l pre y a' V ⟨hno,hb⟩ ⟨⟨rr,hG⟩,rfl⟩;have s3:=hb.size;have kV:Below w.heap.size w V:=kW0.trans (hb.mono (by omega));have HTV:=HT.out.below kV;have cX:=(BX0.below hb (by omega)).cell 0 rfl;have BRV:=BR0.below hb (by omega);have pR:=BRV.cell 0 rfl;have fR:=BRV.frozen 0;obtain ⟨b,o,c1,a1,ss,hy,hcy,hrd,HNX⟩:∃ (b o c1:Nat) (a1:Option Addr) (ss:List ByteArray),y=⟨b,o,none⟩∧V.cell? ⟨b,o,none⟩=some (.slice a1 ss.length c1)∧RdS V.heap.size V (.slice a1 ss.length c1) ss∧Hid ((memT x ss=true→y=placeF ua tb ls x)∧(memT x ss=false→∀ j,j<(pre++[y]).length→j<rs.length→memT x (ls.getD (rs.length - 1 - j) [])=false)):=by
   rcases places_at hG with ⟨hl,rfl⟩ | ⟨hl,rfl⟩
   · have hk:rs.length - 1 - pre.length<rs.length:=by omega
     obtain ⟨_,_,h3 | ⟨ub,rfl,h4,h5⟩⟩:=HTV.up
     · rw [h3] at hk;simp at hk
     obtain ⟨e1,e2⟩:=HTV.row _ hk;have e3:=(h5 _ hk).1;rw [e1] at e3;refine ⟨ub,(rs.length - 1 - pre.length)*2,_,_,_,rfl,e3,e2,fun hm => ?_,fun hm j hj hjr => ?_⟩
     · unfold placeF
       rw [idxF_some hm ls.length (by omega) (fun j h1 h2=>by
        have:=hno (rs.length - 1 - j) (by omega) (by omega)
        rwa [show rs.length - 1 - (rs.length - 1 - j)=j by omega] at this)]
     · rcases Nat.lt_or_ge j pre.length with h | h
       · exact hno j h hjr
       · simp at hj
         obtain rfl:j=pre.length:=by omega
         exact hm
   · obtain ⟨e1,e2⟩:=HTV.out
     have e3:=HTV.box.cell 0 rfl;have e4:V.cell? ⟨tb,0,none⟩=some (.slice F0.la l0.length F0.lc):=by rw [← e1];exact e3
     refine ⟨tb,0,_,_,_,rfl,e4,e2,fun hm => ?_,fun hm j hj hjr => ?_⟩
     · rw [hl0] at hm;cases hm
     · simp at hj
       exact hno j (by omega) hjr
  subst hy;have HRD:Hid (RdS V.heap.size V (.slice a1 ss.length c1) ss):=hrd;have HHN:Hid (∀ j,j<pre.length→j<rs.length→memT x (ls.getD (rs.length - 1 - j) [])=false):=hno;have HHB:Hid (Below W0.heap.size W0 V):=hb;clear hrd hno hG HTV hb
  gi_wp2_with fail
  refine ⟨trivial,?_⟩;refine (callsIn_wide.2 (localises_any x hcy HRD.out)).mono ?_;rintro e V2 ⟨rfl,hV2⟩;obtain rfl:=hV2.symm
  cases hm:memT x ss with
  | true=>
   have HY:Hid ((⟨b,o,none⟩:Addr)=placeF ua tb ls x):=HNX.out.1 hm;have Z1:=boxA_p1 BRV (.pointer (some ⟨b,o,none⟩));have kz:=kV.setCell (p:=⟨w.heap.size+1,0,none⟩) (show w.heap.size≤w.heap.size+1 by omega) (.pointer (some ⟨b,o,none⟩));have kf:=(KeepsOthers.setCell V ⟨w.heap.size+1,0,none⟩ (.pointer (some ⟨b,o,none⟩))).from W0.heap.size;clear HNX hm
   gi_wp2_with fail
   exact ⟨kf,rfl,by rw [← HY.out];exact Z1,kz,by simp [World.setCell];omega⟩
  | false=>
   have HN2:=HNX.out.2 hm;clear HNX hm
   gi_wp2_with fail
   exact ⟨(KeepsOthers.refl _).from _,KeepE.refl _ _ _,HN2,HHB.out⟩
 case done=>
  rintro Dn xs V hDn hS ⟨hno,hb⟩ hdef;have s3:=hb.size;have kV:Below w.heap.size w V:=kW0.trans (hb.mono (by omega));have BRV:=BR0.below hb (by omega);have pR:=BRV.cell 0 rfl;have fR:=BRV.frozen 0;have HP:Hid (placeF ua tb ls x=⟨tb,0,none⟩):=by
   unfold Hid placeF;rw [idxF_none ls.length (fun j hj=>by
    have:=hno (rs.length - 1 - j) (by rw [hS];unfold placesF;simp;omega) (by omega)
    rwa [show rs.length - 1 - (rs.length - 1 - j)=j by omega] at this)]
  clear hno hS
  gi_wp2
  have hK2:=(KeepsOthers.setCell V ⟨w.heap.size+1,0,none⟩ (.pointer (some ⟨tb,0,none⟩))).same Dn _ hdef rfl;refine ⟨by simp,.inl ⟨_,_,rfl,run_takeDeferred hK2,?_⟩⟩;have hgp:=grownBy_putObj' (V.setCell ⟨w.heap.size+1,0,none⟩ (.pointer (some ⟨tb,0,none⟩))) Dn (.deferred none);have x2:=(boxA_gr (boxA_p1 BRV (.pointer (some ⟨tb,0,none⟩))) hgp (fun e=>by cases e;omega)).cell 0 rfl;refine ⟨.pointer (some ⟨tb,0,none⟩),by simp [results,Tryz.results45,go_sem,x2],by rw [HP.out],?_⟩;exact (kV.setCell (p:=⟨w.heap.size+1,0,none⟩) (show w.heap.size≤w.heap.size+1 by omega) _).grown hgp (by simp [World.setCell];omega) (fun k e=>by cases e;omega)
 case stop=>
  rintro Dn c xs V hDn hSp ⟨rfl,h1,h2,h3⟩ hdef;have pR:=h1.cell 0 rfl
  gi_wp2
  refine ⟨by simp,.inl ⟨_,_,rfl,run_takeDeferred hdef,?_⟩⟩;have hgp:=grownBy_putObj' V Dn (.deferred none);have x2:=(boxA_gr h1 hgp (fun e=>by cases e;omega)).cell 0 rfl;refine ⟨.pointer (some (placeF ua tb ls x)),by simp [results,Tryz.results45,go_sem,x2],rfl,?_⟩;exact h2.grown hgp (by omega) (fun k e=>by cases e;omega)
end
section
open Go
section
variable {P:Program} {ops:Array Oper} {Q:Exit→Act→World→Prop} {md:Region.Mode} {S:World→Prop} {m:Nat}
def WentM (P:Program) (md:Region.Mode) (ops:Array Oper) (Q:Exit→Act→World→Prop) (S:World→Prop) (m:Nat) (R:Array Bool→Act→World→Prop) (fuel:Nat) (listed:Array Bool) (i:Nat) (a:Act) (w:World):Prop:=
 (i=m→wpAny P md ops Q fuel (listed.setIfInBounds i true) a w)∧(i≠m→S w∧R (listed.setIfInBounds i true) a w)
def AnyM (P:Program) (md:Region.Mode) (ops:Array Oper) (Q:Exit→Act→World→Prop) (S:World→Prop) (m:Nat):Nat→Array Bool→Act→World→Prop
 | 0=>fun listed a w=>Region.ready md ops listed=[]∧Q .normal a w
 | fuel+1=>fun listed a w=>(Region.ready md ops listed=[]→Q .normal a w)∧∀ i∈Region.ready md ops listed,wpOp P ops Q i (WentM P md ops Q S m (AnyM P md ops Q S m fuel) fuel listed i) a w
theorem AnyM.any:∀ (fuel:Nat) (listed:Array Bool) (a:Act) (w:World),AnyM P md ops Q S m fuel listed a w→wpAny P md ops Q fuel listed a w
 | 0,_,_,_,h=>h
 | fuel+1,listed,a,w,h=>by
  refine ⟨h.1,fun i hi=>wpOp_mono (fun a' w' h' => ?_) (h.2 i hi)⟩;by_cases e:i=m
  · exact h'.1 e
  · exact AnyM.any fuel _ a' w' (h'.2 e).2
def Waits (md:Region.Mode) (ops:Array Oper) (i j:Nat):Bool:=(ops[j]?.map fun o=>o.after.toList.any fun e=>Region.binds md e && e.on==i).getD false
theorem not_ready {j:Nat} (hw:Waits md ops i j=true) (hi:i∈Region.ready md ops listed):j ∉ Region.ready md ops listed:=by
 intro hj;obtain ⟨_,o,ho,hall⟩:=mem_ready.1 hj;unfold Waits at hw;rw [ho] at hw;simp only [Option.map_some,Option.getD_some,List.any_eq_true,Array.mem_toList_iff,Bool.and_eq_true,beq_iff_eq] at hw;obtain ⟨e,he,hb,rfl⟩:=hw;have h1:=hall e he hb;have h0:=(mem_ready.1 hi).1;rcases Nat.lt_or_ge e.on listed.size with h' | h'
 · simp [h'] at h0 h1
   rw [h0] at h1;cases h1
 · simp [Array.getElem?_eq_none h'] at h1
theorem anyM_first {oi:Oper} {v:Value} (hi:ops[i]? = some oi) (hsel:Region.noSelect ops=true) (hm:Waits md ops i m=true) (hQ:∀ c a w,Q (.panic c) (a.put oi.dst v) w→Q (.panic c) a w) :
    ∀ (fuel:Nat) (listed:Array Bool) (a:Act) (w:World),
     (∀ j oj,ops[j]? = some oj→j≠i→listed.getD j true=false→(∀ e∈oj.after,Region.binds md e=true→e.on≠i)→oi.apart ops oj=true) →
     i∈Region.ready md ops listed→YieldsIf P ops S oi v a→S w→AnyM P md ops Q S m fuel (listed.setIfInBounds i true) (a.put oi.dst v) w→AnyM P md ops Q S m (fuel+1) listed a w
 | fuel,listed,a,w,hfree,hr,hy,hS,H=>by
  have hne:Region.ready md ops listed≠[]:=fun h=>by rw [h] at hr;cases hr
  have him:i≠m:=fun e=>not_ready (md:=md) (ops:=ops) hm hr (e ▸ hr);refine ⟨fun h=>absurd h hne,fun j hj => ?_⟩;by_cases hji:j=i
  · subst hji
    exact hy.wpOp hi hS ⟨fun e=>absurd e him,fun _=>⟨hS,H⟩⟩
  have hjm:j≠m:=fun e=>not_ready (md:=md) (ops:=ops) hm hr (e ▸ hj);have hj2:=ready_mono hj hji
  cases fuel with
  | zero=>
   have h0:Region.ready md ops (listed.setIfInBounds i true)=[]:=H.1;rw [h0] at hj2;cases hj2
  | succ fuel=>
   obtain ⟨hjun,oj,hoj,hall⟩:=mem_ready.1 hj;have hnot:∀ e∈oj.after,Region.binds md e=true→e.on≠i:=fun e he hb heq=>by
    refine not_ready (md:=md) (ops:=ops) (i:=i) (j:=j) ?_ hr hj;unfold Waits;rw [hoj];simp only [Option.map_some,Option.getD_some,List.any_eq_true,Array.mem_toList_iff,Bool.and_eq_true,beq_iff_eq];exact ⟨e,he,hb,heq⟩
   have h1:=H.2 j hj2;have hsp:=Region.noSelect_spec hsel;have h2:=wpOp_putIf hoj (hfree j oj hoj hji hjun hnot) (fun cs b=>hsp i oi cs b hi) (fun cs b=>hsp j oj cs b hoj) hQ hy h1;have hfree':∀ k ok,ops[k]? = some ok→k≠i→(listed.setIfInBounds j true).getD k true=false→(∀ e∈ok.after,Region.binds md e=true→e.on≠i)→oi.apart ops ok=true:=fun k ok hk hki hun hno=>by
    refine hfree k ok hk hki ?_ hno;by_cases hjk:j=k
    · subst hjk;exact hjun
    · rwa [getD_set_ne true hjk] at hun
   refine wpOp_mono (fun a' w' h3=>⟨fun e=>absurd e hjm,fun _ => ?_⟩) h2;have h4:=h3.2.2 hjm;refine ⟨h4.1,anyM_first hi hsel hm hQ fuel (listed.setIfInBounds j true) a' w' hfree' (ready_mono hr (Ne.symm hji)) h3.1 h4.1 ?_⟩;rw [Array.setIfInBounds_comm _ _ hji];exact h4.2
theorem anyM_take {oi:Oper} {v:Value} (hi:ops[i]? = some oi)
    (hs:Region.noSelect ops=true) (hm:Waits md ops i m=true) (hf:Region.free md ops listed i=true) (hr:(Region.ready md ops listed).contains i=true)
    (hQ:∀ c a w,Q (.panic c) (a.put oi.dst v) w→Q (.panic c) a w) (hy:YieldsIf P ops S oi v a) (hS:S w)
    (h:AnyM P md ops Q S m fuel (listed.setIfInBounds i true) (a.put oi.dst v) w):AnyM P md ops Q S m (fuel+1) listed a w:=
 anyM_first hi hs hm hQ fuel listed a w (Region.free_spec hi hf) (by simpa using hr) hy hS h
theorem anyM_one {o:Oper} (ho:ops[i]? = some o) (hr:Region.ready md ops listed=[i]) (him:(i==m)=false)
    (h:∀ K':Act→World→Prop,Shut (∀ a w,S w→(S w→AnyM P md ops Q S m fuel (listed.setIfInBounds i true) a w)→K' a w)→if Region.wanted o (yielded ops a.tmps)=true then Oper.wp P o a w K' Q else K' (a.put o.dst undef) w):AnyM P md ops Q S m (fuel+1) listed a w:=by
 have hm:i≠m:=by simpa using him
 refine ⟨fun h0=>(by rw [h0] at hr;cases hr),fun j hj => ?_⟩;rw [hr] at hj;obtain rfl:j=i:=by simpa using hj
 exact wpOp_step ho (fun K' hK=>h K' (fun a w hS hW=>hK a w ⟨fun e=>absurd e hm,fun _=>⟨hS,hW hS⟩⟩))
theorem anyM_last {o:Oper} (ho:ops[m]? = some o) (hr:Region.ready md ops listed=[m])
    (h:∀ K':Act→World→Prop,Shut (∀ a w,True→(True→wpAnyH P md ops Q (fun _=>True) fuel (listed.setIfInBounds m true) a w)→K' a w)→if Region.wanted o (yielded ops a.tmps)=true then Oper.wp P o a w K' Q else K' (a.put o.dst undef) w):AnyM P md ops Q S m (fuel+1) listed a w:=by
 refine ⟨fun h0=>(by rw [h0] at hr;cases hr),fun j hj => ?_⟩;rw [hr] at hj;obtain rfl:j=m:=by simpa using hj
 exact wpOp_step ho (fun K' hK=>h K' (fun a w _ hW=>hK a w ⟨fun _=>wpAny_of_held _ _ _ _ (hW trivial),fun e=>absurd rfl e⟩))
theorem wp_region_M {id:Nat} (hm:P.follows .mixedOrders=true) (hS:S w.drew) (h:S w.drew→AnyM P .any ops Q S m ops.size (Array.replicate ops.size false) a w.drew):(Code.region id ops true).wp P Q a w:=
 wp_region_any hm (AnyM.any _ _ _ _ (h hS))
end
end
end Go.Proofs.YtimfnalpmmkndaaGreatDoor
