/- pairing.through of two arrays of numbers. -/
import Derived.Test.YtilbfkabfgnhpaaGreatKS1
import Derived.Test.YtilbfkabfgnhpaaGreatK11
import Derived.Test.YtilbfkabfgnhpaaGreatK7
set_option maxRecDepth 100000
set_option maxHeartbeats 16000000
set_option linter.unusedVariables false
set_option linter.unusedSimpArgs false
namespace Go.Proofs.YtilbfkabfgnhpaaGreat
open Go.RowKit
section
variable {w:World} {ba bb gA oA nA cA gB oB nB cB i:Nat}
theorem tmod_nat (i n:Nat):(i:Int).tmod (n:Int)=((i % n:Nat):Int):=by
 rw [Int.tmod_eq_emod_of_nonneg (by omega)];rfl
theorem pairs_at (ca:w.cell? ⟨ba,1,none⟩=some (.slice (some ⟨gA,oA,none⟩) nA cA)) (cb:w.cell? ⟨bb,1,none⟩=some (.slice (some ⟨gB,oB,none⟩) nB cB)) (hA:0<nA) (hB:0<nB) :
    Calls Tryz.prog 137 #[.int .i64 i,.pointer (some ⟨ba,0,none⟩),.pointer (some ⟨bb,0,none⟩)] w fun e w'=>e=.returned (.tuple #[.pointer (some ⟨gA,oA+i % nA*6,none⟩),.pointer (some ⟨gB,oB+i % nB*6,none⟩)])∧∃ q,w'=w.drewN q:=by
 have m1:=tmod_nat i nA;have m2:=tmod_nat i nB;have l1:=Nat.mod_lt i hA;have l2:=Nat.mod_lt i hB;obtain ⟨r1,hr1⟩:∃ r,i % nA=r:=⟨_,rfl⟩;obtain ⟨r2,hr2⟩:∃ r,i % nB=r:=⟨_,rfl⟩;rw [hr1] at m1 l1;rw [hr2] at m2 l2;rw [hr1,hr2];clear hr1 hr2;have h1:¬ (nA:Int)=0:=by omega
 have h2:¬ (nB:Int)=0:=by omega
 go_enter Tryz.func137,Tryz.ntmps137
 go_wp2_with fail
 go_quiet (fail)
 go_wp2
 go_ret2
 exact ⟨rfl,_,rfl⟩
end
theorem copyOf5_any {D:Nat→Prop} {w:World} {a1:Option Addr} {c1:Nat} {ns:List Int} (h1:RdN D w (.slice a1 ns.length c1) ns) (l1:ns.length*8≤140737488355328) :
    Calls Tryz.prog 167 #[.slice a1 ns.length c1] w fun e w'=>∃ x1 y1,e=.returned (.slice x1 ns.length y1)∧RdN (Fr w.heap.size w'.heap.size) w' (.slice x1 ns.length y1) ns∧Below w.heap.size w w':=by
 go_enter Tryz.func167,Tryz.ntmps167
 go_wp2_with (at_builtin;refine append_nilN rfl _ _ rfl rfl rfl h1 l1 ?_)
 intro x1 y1 w2 o1 k1;go_wp2
 go_ret
 exact ⟨x1,y1,rfl,o1,k1⟩
theorem lt_of_cellT {w:World} {b off:Nat} {v:Value} (h:w.cell? ⟨b,off,none⟩=some v):b<w.heap.size:=by
 rcases Nat.lt_or_ge b w.heap.size with h' | h'
 · exact h'
 · simp [World.cell?,Array.getElem?_eq_none h'] at h
theorem boxA_oT {w:World} {k ty B o:Nat} {xs:Array Value} (h:BoxA w k ty xs) (hp:B≠k) (v:Value):BoxA (w.setCell ⟨B,o,none⟩ v) k ty xs:=by
 unfold BoxA at h ⊢;simp [World.setCell,Array.getElem?_modify,hp,h]
theorem Kp.set {B:Nat} (w:World) (o:Nat) (v:Value):Kp B w (w.setCell ⟨B,o,none⟩ v):=⟨rfl,rfl,rfl,by simp [World.setCell],fun g _ hB=>set1_other (by show ¬ B=g;exact fun e=>hB e.symm) v⟩
section
variable {D:Nat→Prop} {w:World} {p ba bb gA oA nA cA gB oB nB cB n:Nat} {F:Value} {x1:Option Addr} {y1:Nat} {sh:List Int} {L:List Tr} {gl:Int}
theorem through_work (P0:BoxA w p 129 #[.int .i32 gl,F,.int .i64 0,.int .i64 16384]) (hsh:RdN D w (.slice x1 sh.length y1) sh) (hD:∀ g,D g→g<w.heap.size) (hsz:sizeF sh=((n:Int),0)) (hn:0<n) (hn4:n≤4096) (hL:L.length=n)
    (ca:w.cell? ⟨ba,1,none⟩=some (.slice (some ⟨gA,oA,none⟩) nA cA)) (cb:w.cell? ⟨bb,1,none⟩=some (.slice (some ⟨gB,oB,none⟩) nB cB)) (ea:ba≠p) (eb:bb≠p) (hA:0<nA) (hB:0<nB)
    (hIt:∀ i,i<n→∀ v',Kp p w v'→BoxA v' p 129 #[.int .i32 gl,F,.int .i64 ((i:Nat)+1:Int),.int .i64 16384]→Calls Tryz.prog 168 #[.pointer (some ⟨p,0,none⟩),.pointer (some ⟨gA,oA+i % nA*6,none⟩),.pointer (some ⟨gB,oB+i % nB*6,none⟩)] v' fun e w'=>ItemR v'.heap.size (fun b ns ds=>numT b ns ds=L.getD i tr0) e w'∧Below v'.heap.size v' w') :
    Calls Tryz.prog 136 #[.pointer (some ⟨p,0,none⟩),.slice x1 sh.length y1,.func (.func 137) #[] #[.pointer (some ⟨ba,0,none⟩),.pointer (some ⟨bb,0,none⟩)]] w fun e w'=>∃ x5 y5 b3 d3,e=.returned (.tuple #[.agg #[.slice x5 sh.length y5,.slice b3 n d3],.int .i64 0])∧ArV 1 (Fr w.heap.size w'.heap.size) w' (.slice x5 sh.length y5) (.slice b3 n d3) (arrT sh L)∧Kp p w w':=by
 have k0:=below_alloc w (.cells #[.slice none 0 0,.slice none 0 0] 51);have R0:=boxA_new w #[.slice none 0 0,.slice none 0 0] 51;have lp:=P0.lt;have P1:=P0.below k0 lp;have s0:(w.alloc (.cells #[.slice none 0 0,.slice none 0 0] 51)).heap.size=w.heap.size+1:=by simp
 have hshl:sh.length≤8:=size_rank (by rw [hsz]);have HIt:Hid (∀ i,i<n→∀ v',Kp p w v'→BoxA v' p 129 #[.int .i32 gl,F,.int .i64 ((i:Nat)+1:Int),.int .i64 16384]→Calls Tryz.prog 168 #[.pointer (some ⟨p,0,none⟩),.pointer (some ⟨gA,oA+i % nA*6,none⟩),.pointer (some ⟨gB,oB+i % nB*6,none⟩)] v' fun e w'=>ItemR v'.heap.size (fun b ns ds=>numT b ns ds=L.getD i tr0) e w'∧Below v'.heap.size v' w'):=hIt;have hsh1:=hsh.imp (fun _ h=>h) (Agree.of k0 hD);have C1:=arrSize_any hsh1 (fun g hg=>by have:=hD g hg;omega);rw [hsz] at C1;have C2:=copyOf5_any hsh1 (by omega);have z2:=P1.cell 2 rfl;have hn0:((n:Int)==0)=false:=by rw [beq_eq_false_iff_ne];omega
 clear hIt hsh hD hsz hsh1;go_enter Tryz.func136,Tryz.ntmps136
 go_wp2_with fail
 refine C1.mono ?_;rintro e w1 ⟨rfl,hw⟩;obtain rfl:=hw.symm;clear C1
 go_wp2_with fail
 refine C2.mono ?_;rintro e w2 ⟨x5,y5,rfl,oN,kN⟩;clear C2 z2;have P2:=P1.below kN (by omega);have R2:=R0.below kN (by omega);have kb:=below_alloc w2 (.cells #[.slice x5 sh.length y5,.slice none 0 0] 51);have Y2:=boxA_new w2 #[.slice x5 sh.length y5,.slice none 0 0] 51;have s2:=kN.size;have P3:=P2.below kb (by omega);have R3:=R2.below kb (by omega);have kw:Below w.heap.size w (w2.alloc (.cells #[.slice x5 sh.length y5,.slice none 0 0] 51)):=(k0.trans (kN.mono (by omega))).trans (kb.mono (by omega));have s3:(w2.alloc (.cells #[.slice x5 sh.length y5,.slice none 0 0] 51)).heap.size=w2.heap.size+1:=by simp
 have oN3:=oN.imp (fun _ h=>h) (Agree.of kb (fun q hq=>hq.2));have HN:Hid (RdN (Fr (w.alloc (.cells #[.slice none 0 0,.slice none 0 0] 51)).heap.size w2.heap.size) (w2.alloc (.cells #[.slice x5 sh.length y5,.slice none 0 0] 51)) (.slice x5 sh.length y5) sh):=oN3;clear oN oN3 P1 P2 R0 R2 k0
 go_wp2_with fail
 generalize hA':w2.alloc (.cells #[.slice x5 sh.length y5,.slice none 0 0] 51)=u at *;clear hA';have s3a:w2.heap.size<u.heap.size:=by omega
 have s3b:u.heap.size≤w2.heap.size+1:=by omega
 clear s3;have caU:u.cell? ⟨ba,1,none⟩=some (.slice (some ⟨gA,oA,none⟩) nA cA):=(Kp.of_below kw).cell (B:=p) ea ca;have cbU:u.cell? ⟨bb,1,none⟩=some (.slice (some ⟨gB,oB,none⟩) nB cB):=(Kp.of_below kw).cell (B:=p) eb cb;have lba:ba<w.heap.size:=lt_of_cellT ca;have lbb:bb<w.heap.size:=lt_of_cellT cb;obtain ⟨i0,hi,hz0,hz1,hz2⟩:=info_parts info_item3
 go_loopw [41] (fun iv wr=>∃ (i:Nat) (b3:Option Addr) (d3:Nat),iv=.int .i64 i∧i≤n∧BoxA wr p 129 #[.int .i32 gl,F,.int .i64 (i:Int),.int .i64 16384]∧BoxA wr w2.heap.size 51 #[.slice x5 sh.length y5,.slice b3 i d3]∧RowOf 93 6 (ElI 0 L) u.heap.size wr (.slice b3 i d3) i∧Kp p w wr∧u.heap.size≤wr.heap.size∧Hid (∀ g,g<u.heap.size→g≠p→g≠w2.heap.size→wr.heap[g]? = u.heap[g]?)) (fun iv _=>n - (intOf iv).toNat)
 case atStart=>exact ⟨0,none,0,rfl,Nat.zero_le _,P3,Y2,RowOf.nil,Kp.of_below kw,Nat.le_refl _,fun _ _ _ _=>rfl⟩
 case round=>
  obtain ⟨i,b3,d3,rfl,hil,Pr,Yr,hrow,kr,hsr,HK⟩:=hrel;have lpr:=Pr.lt;have lyr:=Yr.lt;by_cases hlt:i<n
  · have car:=kr.cell ea ca
    have cbr:=kr.cell eb cb;have CP:=pairs_at (i:=i) car cbr hA hB;clear car cbr
    go_wp2_with fail
    refine CP.mono ?_;rintro e wd ⟨rfl,q,hwd⟩;clear CP;have kd:Below wr.heap.size wr wd:=by rw [hwd];exact below_drewN' (Below.refl _ _) q
    have sd:wd.heap.size=wr.heap.size:=by rw [hwd];rfl
    clear hwd;have Pd:=Pr.below kd lpr;have Yd:=Yr.below kd lyr;have d2:=Pd.cell 2 rfl;have f2:=Pd.frozen 2;have Ps:=Pd.put 2 (.int .i64 ((i:Int)+1));have Ys:=boxA_oT Yd (show p≠w2.heap.size by omega) (o:=2) (.int .i64 ((i:Int)+1));have kS:Kp p wd (wd.setCell ⟨p,2,none⟩ (.int .i64 ((i:Int)+1))):=Kp.set _ _ _;have kS2:Kp p w (wd.setCell ⟨p,2,none⟩ (.int .i64 ((i:Int)+1))):=(kr.trans (Kp.of_below kd)).trans kS;have sS:(wd.setCell ⟨p,2,none⟩ (.int .i64 ((i:Int)+1))).heap.size=wr.heap.size:=by rw [← sd];simp [World.setCell]
    have hrowS:=(hrow.below (elI_ok 0 L) kd (Nat.le_refl _)).setCell (elI_ok 0 L) (a:=⟨p,2,none⟩) (by show p<_;omega) (.int .i64 ((i:Int)+1));have CI:=HIt.out i hlt _ kS2 (by simpa using Ps)
    go_wp2_with fail
    generalize hSw:wd.setCell ⟨p,2,none⟩ (.int .i64 ((i:Int)+1))=W1 at *;refine CI.mono ?_;rintro e w4 ⟨⟨b,z1,ns,u1,z2,ds,u2,rfl,ho1,ho2,hT⟩,k4⟩;clear CI d2 f2;have s4:=k4.size;have kI:=below_alloc w4 (.cells #[.int .u8 1,.bool b,.slice z1 ns.length u1,.slice z2 ds.length u2,.int .i32 0,.slice none 0 0] 93);have BI:=boxA_new w4 #[.int .u8 1,.bool b,.slice z1 ns.length u1,.slice z2 ds.length u2,.int .i32 0,.slice none 0 0] 93;have sI:(w4.alloc (.cells #[.int .u8 1,.bool b,.slice z1 ns.length u1,.slice z2 ds.length u2,.int .i32 0,.slice none 0 0] 93)).heap.size=w4.heap.size+1:=by simp
    have kWI:Below W1.heap.size W1 (w4.alloc (.cells #[.int .u8 1,.bool b,.slice z1 ns.length u1,.slice z2 ds.length u2,.int .i32 0,.slice none 0 0] 93)):=k4.trans (kI.mono s4);have PI:=Ps.below kWI (by omega);have YI:=Ys.below kWI (by omega);have p2:=PI.cell 2 rfl;have p3:=PI.cell 3 rfl;have i1:=BI.cell 0 rfl;have i2:=BI.cell 1 rfl;have i3:=BI.cell 2 rfl;have i4:=BI.cell 3 rfl;have i5:=BI.cell 4 rfl;have i6:=BI.cell 5 rfl;have hle:((i:Int)+1≤16384)=True:=by simp;omega
    go_wp2_with fail
    go_quiet (fail)
    generalize hIw:w4.alloc (.cells #[.int .u8 1,.bool b,.slice z1 ns.length u1,.slice z2 ds.length u2,.int .i32 0,.slice none 0 0] 93)=w5 at *;clear p2 p3;have y1':=YI.cell 1 rfl;obtain ⟨xs,hor,he⟩:=hrowS;have HO:Hid (W1.ownsRow u.heap.size 93 6 (.slice b3 i d3) i xs):=hor;have HE:Hid (∀ j,j<i→ElI 0 L (FrR u.heap.size W1 (.slice b3 i d3)) W1 (cellsOf xs 6 j) j):=he;clear hor he hrow;have kq:Below w5.heap.size w5 (w5.drewN nq):=below_drewN' (Below.refl _ _) nq;have lB5:=BI.lt;have lP5:=PI.lt;have lY5:=YI.lt;have B6:=BI.below kq lB5;have P6:=PI.below kq lP5;have Y6:=YI.below kq lY5;have s56:w5.heap.size≤(w5.drewN nq).heap.size:=kq.size;have k6:Below W1.heap.size W1 (w5.drewN nq):=kWI.trans (kq.mono kWI.size);have ho1':=((ho1.below kI (Nat.le_refl _)).below kq (Nat.le_refl _));have ho2':=((ho2.below kI (Nat.le_refl _)).below kq (Nat.le_refl _));generalize hq6:w5.drewN nq=w6 at *;clear hq6 y1' i1 i2 i3 i4 i5 i6 hIw ho1 ho2;have HV:Hid (ItV (ArV 0 (fun g=>W1.heap.size≤g∧g<w6.heap.size) w6) (fun g=>W1.heap.size≤g∧g<w6.heap.size) w6 z1 u1 z2 u2 none 0 (numT b ns ds)):=⟨RdL.of_own ho1',RdL.of_own ho2',⟨none,0,rfl,Nat.le_refl _,by omega,fun _=>rfl,Or.inl rfl⟩⟩;have HT:Hid (numT b ns ds=L.getD i tr0):=hT.out;clear ho1' ho2' hT;have y1:=Y6.cell 1 rfl;have i1:=B6.cell 0 rfl;have i2:=B6.cell 1 rfl;have i3:=B6.cell 2 rfl;have i4:=B6.cell 3 rfl;have i5:=B6.cell 4 rfl;have i6:=B6.cell 5 rfl;have lY6:=Y6.lt;have lP6:=P6.lt;have s6:=k6.size;have hyO:∀ O,(w6.alloc O).cell? ⟨w2.heap.size,1,none⟩=some (.slice b3 i d3):=fun O=>(Y6.below (below_alloc w6 O) lY6).cell 1 rfl
    go_wp2_with (at_builtin;refine wpList_append_own_at _ rfl _ _ 49 rfl u.heap.size 93 i0 (.agg #[.int .u8 0,.bool false,.slice none 0 0,.slice none 0 0,.int .i32 0,.slice none 0 0]) 6 96 Tryz.underlying49 hi hz0 hz1 hz2 rfl (by decide) _ i xs rfl ((row_below HO.out k6 (Nat.le_refl _)).alloc _) ⟨w6.heap.size,0,none⟩ 1 1 [.int .u8 1,.bool b,.slice z1 ns.length u1,.slice z2 ds.length u2,.int .i32 0,.slice none 0 0] rfl rfl (cells_new w6 #[.int .u8 1,.bool b,.slice z1 ns.length u1,.slice z2 ds.length u2,.int .i32 0,.slice none 0 0] _) (by intro x hx;simp at hx;rcases hx with rfl | rfl | rfl | rfl | rfl | rfl <;> rfl) (by unfold maxLen;omega) (by omega) (by simp;omega) ?_)
    intro v' w7 hr hgr _ hvo;obtain ⟨b4,d4,rfl⟩:=row_form3 hr;have nY:(Value.slice b3 i d3).ownBlock≠some w2.heap.size:=fun h=>by have:=(row_own HO.out _ h).1;omega
    have nP:(Value.slice b3 i d3).ownBlock≠some p:=fun h=>by have:=(row_own HO.out _ h).1;omega
    have Y7:=boxA_grown (Y6.below (below_alloc w6 (.cells #[.int .u8 1,.bool b,.slice z1 ns.length u1,.slice z2 ds.length u2,.int .i32 0,.slice none 0 0] 93)) lY6) hgr nY;have P7:=boxA_grown (P6.below (below_alloc w6 (.cells #[.int .u8 1,.bool b,.slice z1 ns.length u1,.slice z2 ds.length u2,.int .i32 0,.slice none 0 0] 93)) lP6) hgr nP;have y7:=Y7.cell 1 rfl;have f7:=Y7.frozen 1;obtain ⟨t1,t2,t3,t4⟩:=row_round (o:=1) (u:=.slice b4 (i+1) d4) (news:=[.int .u8 1,.bool b,.slice z1 ns.length u1,.slice z2 ds.length u2,.int .i32 0,.slice none 0 0]) (wc:=W1) (V:=W1) (B:=w2.heap.size) (elI_ok 0 L) HO.out HE.out (fun _ _ _=>rfl) (Below.refl _ _) (by omega) (Nat.le_refl _) (by omega) k6 rfl (by unfold ElI;rw [← HT.out];exact ⟨z1,u1,z2,u2,none,0,⟨rfl,rfl,rfl,rfl,rfl,rfl⟩,HV.out⟩) hr hgr (by rw [World.size_alloc];exact hvo);have T1:Hid (RowOf 93 6 (ElI 0 L) u.heap.size (w7.setCell ⟨w2.heap.size,1,none⟩ (.slice b4 (i+1) d4)) (.slice b4 (i+1) d4) (i+1)):=t1;have HK7:Hid (∀ g,g<u.heap.size→g≠p→g≠w2.heap.size→(w7.setCell ⟨w2.heap.size,1,none⟩ (.slice b4 (i+1) d4)).heap[g]? = u.heap[g]?):=fun g h1 h2 h3=>by
     rw [t4 g h1 h3,kS.block g (by omega) h2,kd.block g (by omega)];exact HK.out g h1 h2 h3
    have Kp7:Kp p w (w7.setCell ⟨w2.heap.size,1,none⟩ (.slice b4 (i+1) d4)):=⟨t2.os.trans kS2.os,t2.tape.trans kS2.tape,t2.output.trans kS2.output,Nat.le_trans kS2.size t2.size,fun g h1 h2=>by rw [t4 g (by omega) (by omega)];exact kS2.block g h1 h2⟩;have P8:BoxA (w7.setCell ⟨w2.heap.size,1,none⟩ (.slice b4 (i+1) d4)) p 129 #[.int .i32 gl,F,.int .i64 (((i+1:Nat)):Int),.int .i64 16384]:=by simpa using boxA_oT P7 (show w2.heap.size≠p by omega) (o:=1) (.slice b4 (i+1) d4)
    have Y8:=boxA_s1 Y7 (.slice b4 (i+1) d4);clear t1 t4 hr hgr hvo;go_wp2
    go_roundw
    case rel=>exact ⟨i+1,b4,d4,by go_num,by omega,P8,Y8,T1.out,Kp7,t3,HK7⟩
    case measure=>simp [intOf];omega
  · obtain rfl:i=n:=by omega
    have Rr:BoxA wr w.heap.size 51 #[.slice none 0 0,.slice none 0 0]:=by
     have:=R3;unfold BoxA at this ⊢;rw [HK.out _ (by omega) (by omega) (by omega)];exact this
    have r0:=Rr.cell 0 rfl;have r1:=Rr.cell 1 rfl;have f0:=Rr.frozen 0;have f1:=Rr.frozen 1;have y0:=Yr.cell 0 rfl;have y1:=Yr.cell 1 rfl;have q2:=Pr.cell 2 rfl;have hgt:¬ (16384:Int)<(i:Int):=by omega
    go_wp2
    have Q:=boxA_s1 (boxA_s0 Rr (.slice x5 sh.length y5)) (.slice b3 i d3);have j0:=Q.cell 0 rfl;have j1:=Q.cell 1 rfl;refine bodyPost_ret (v:=.tuple #[.agg #[.slice x5 sh.length y5,.slice b3 i d3],.int .i64 0]) (by simp [results,Tryz.results136,go_sem,j0,j1]) rfl ?_;have hKp:Kp p w ((wr.setCell ⟨w.heap.size,0,none⟩ (.slice x5 sh.length y5)).setCell ⟨w.heap.size,1,none⟩ (.slice b3 i d3)):=⟨kr.os,kr.tape,kr.output,by rw [set1_size,set1_size];exact kr.size,fun g h1 h2=>by rw [set1_other (by show ¬ w.heap.size=g;omega),set1_other (by show ¬ w.heap.size=g;omega)];exact kr.block g h1 h2⟩;refine ⟨x5,y5,b3,d3,rfl,⟨HN.out.imp ?_ ?_,?_⟩,hKp⟩
    · rintro g ⟨q1,q2⟩;exact ⟨by omega,by rw [set1_size,set1_size];omega⟩
    · rintro g ⟨q1,q2⟩;rw [set1_other (by show ¬ w.heap.size=g;omega),set1_other (by show ¬ w.heap.size=g;omega)];exact HK.out g (by omega) (by omega) (by omega)
    · have hb:=rowB_I (D:=Fr w.heap.size ((wr.setCell ⟨w.heap.size,0,none⟩ (.slice x5 sh.length y5)).setCell ⟨w.heap.size,1,none⟩ (.slice b3 i d3)).heap.size) ((hrow.setCell (elI_ok _ _) (a:=⟨w.heap.size,0,none⟩) (by show w.heap.size<_;omega) (.slice x5 sh.length y5)).setCell (elI_ok _ _) (a:=⟨w.heap.size,1,none⟩) (by show w.heap.size<_;omega) (.slice b3 i d3)) (fun g q1 q2=>⟨by omega,q2⟩)
      have e:(arrT sh L).kids.length=i:=hL;rw [e];exact hb
end
section
variable {D:Nat→Prop} {w:World} {p ba bb gA oA nA cA gB oB nB cB n:Nat} {F:Value} {x1:Option Addr} {y1:Nat} {sh:List Int} {gl:Int}
theorem through_look (P0:BoxA w p 129 #[.int .i32 gl,F,.int .i64 0,.int .i64 0]) (hsh:RdN D w (.slice x1 sh.length y1) sh) (hD:∀ g,D g→g<w.heap.size) (hsz:sizeF sh=((n:Int),0)) (hn:0<n) (hn4:n≤4096)
    (ca:w.cell? ⟨ba,1,none⟩=some (.slice (some ⟨gA,oA,none⟩) nA cA)) (cb:w.cell? ⟨bb,1,none⟩=some (.slice (some ⟨gB,oB,none⟩) nB cB)) (ea:ba≠p) (eb:bb≠p) (hA:0<nA) (hB:0<nB)
    (hIt:∀ i,i<n→∀ v',Kp p w v'→BoxA v' p 129 #[.int .i32 gl,F,.int .i64 ((i:Nat)+1:Int),.int .i64 0]→Calls Tryz.prog 168 #[.pointer (some ⟨p,0,none⟩),.pointer (some ⟨gA,oA+i % nA*6,none⟩),.pointer (some ⟨gB,oB+i % nB*6,none⟩)] v' fun e w'=>ItemR v'.heap.size (fun _ _ _=>True) e w'∧Below v'.heap.size v' w') :
    Calls Tryz.prog 136 #[.pointer (some ⟨p,0,none⟩),.slice x1 sh.length y1,.func (.func 137) #[] #[.pointer (some ⟨ba,0,none⟩),.pointer (some ⟨bb,0,none⟩)]] w fun e w'=>(∃ x5 y5,e=.returned (.tuple #[.agg #[.slice x5 sh.length y5,.slice none 0 0],.int .i64 0]))∧Kp p w w':=by
 have k0:=below_alloc w (.cells #[.slice none 0 0,.slice none 0 0] 51);have R0:=boxA_new w #[.slice none 0 0,.slice none 0 0] 51;have lp:=P0.lt;have P1:=P0.below k0 lp;have s0:(w.alloc (.cells #[.slice none 0 0,.slice none 0 0] 51)).heap.size=w.heap.size+1:=by simp
 have hshl:sh.length≤8:=size_rank (by rw [hsz]);have HIt:Hid (∀ i,i<n→∀ v',Kp p w v'→BoxA v' p 129 #[.int .i32 gl,F,.int .i64 ((i:Nat)+1:Int),.int .i64 0]→Calls Tryz.prog 168 #[.pointer (some ⟨p,0,none⟩),.pointer (some ⟨gA,oA+i % nA*6,none⟩),.pointer (some ⟨gB,oB+i % nB*6,none⟩)] v' fun e w'=>ItemR v'.heap.size (fun _ _ _=>True) e w'∧Below v'.heap.size v' w'):=hIt;have hsh1:=hsh.imp (fun _ h=>h) (Agree.of k0 hD);have C1:=arrSize_any hsh1 (fun g hg=>by have:=hD g hg;omega);rw [hsz] at C1;have C2:=copyOf5_any hsh1 (by omega);have z2:=P1.cell 2 rfl;have hn0:((n:Int)==0)=false:=by rw [beq_eq_false_iff_ne];omega
 clear hIt hsh hD hsz hsh1;go_enter Tryz.func136,Tryz.ntmps136
 go_wp2_with fail
 refine C1.mono ?_;rintro e w1 ⟨rfl,hw⟩;obtain rfl:=hw.symm;clear C1
 go_wp2_with fail
 refine C2.mono ?_;rintro e w2 ⟨x5,y5,rfl,oN,kN⟩;clear C2 z2;have P2:=P1.below kN (by omega);have R2:=R0.below kN (by omega);have kb:=below_alloc w2 (.cells #[.slice x5 sh.length y5,.slice none 0 0] 51);have Y2:=boxA_new w2 #[.slice x5 sh.length y5,.slice none 0 0] 51;have s2:=kN.size;have P3:=P2.below kb (by omega);have R3:=R2.below kb (by omega);have kw:Below w.heap.size w (w2.alloc (.cells #[.slice x5 sh.length y5,.slice none 0 0] 51)):=(k0.trans (kN.mono (by omega))).trans (kb.mono (by omega));have s3:(w2.alloc (.cells #[.slice x5 sh.length y5,.slice none 0 0] 51)).heap.size=w2.heap.size+1:=by simp
 have oN3:=oN.imp (fun _ h=>h) (Agree.of kb (fun q hq=>hq.2));have HN:Hid (RdN (Fr (w.alloc (.cells #[.slice none 0 0,.slice none 0 0] 51)).heap.size w2.heap.size) (w2.alloc (.cells #[.slice x5 sh.length y5,.slice none 0 0] 51)) (.slice x5 sh.length y5) sh):=oN3;clear oN oN3 P1 P2 R0 R2 k0
 go_wp2_with fail
 generalize hA':w2.alloc (.cells #[.slice x5 sh.length y5,.slice none 0 0] 51)=u at *;clear hA';have s3a:w2.heap.size<u.heap.size:=by omega
 have s3b:u.heap.size≤w2.heap.size+1:=by omega
 clear s3;have caU:u.cell? ⟨ba,1,none⟩=some (.slice (some ⟨gA,oA,none⟩) nA cA):=(Kp.of_below kw).cell (B:=p) ea ca;have cbU:u.cell? ⟨bb,1,none⟩=some (.slice (some ⟨gB,oB,none⟩) nB cB):=(Kp.of_below kw).cell (B:=p) eb cb;have lba:ba<w.heap.size:=lt_of_cellT ca;have lbb:bb<w.heap.size:=lt_of_cellT cb
 go_loopw [41] (fun iv wr=>∃ (i:Nat) (b3:Option Addr) (d3:Nat),iv=.int .i64 i∧i≤n∧BoxA wr p 129 #[.int .i32 gl,F,.int .i64 (i:Int),.int .i64 0]∧BoxA wr w2.heap.size 51 #[.slice x5 sh.length y5,.slice none 0 0]∧(b3=none∧d3=0)∧Kp p w wr∧u.heap.size≤wr.heap.size∧Hid (∀ g,g<u.heap.size→g≠p→g≠w2.heap.size→wr.heap[g]? = u.heap[g]?)) (fun iv _=>n - (intOf iv).toNat)
 case atStart=>exact ⟨0,none,0,rfl,Nat.zero_le _,P3,Y2,⟨rfl,rfl⟩,Kp.of_below kw,Nat.le_refl _,fun _ _ _ _=>rfl⟩
 case round=>
  obtain ⟨i,b3,d3,rfl,hil,Pr,Yr,hrow,kr,hsr,HK⟩:=hrel;have lpr:=Pr.lt;have lyr:=Yr.lt;by_cases hlt:i<n
  · have car:=kr.cell ea ca
    have cbr:=kr.cell eb cb;have CP:=pairs_at (i:=i) car cbr hA hB;clear car cbr
    go_wp2_with fail
    refine CP.mono ?_;rintro e wd ⟨rfl,q,hwd⟩;clear CP;have kd:Below wr.heap.size wr wd:=by rw [hwd];exact below_drewN' (Below.refl _ _) q
    have sd:wd.heap.size=wr.heap.size:=by rw [hwd];rfl
    clear hwd;have Pd:=Pr.below kd lpr;have Yd:=Yr.below kd lyr;have d2:=Pd.cell 2 rfl;have f2:=Pd.frozen 2;have Ps:=Pd.put 2 (.int .i64 ((i:Int)+1));have Ys:=boxA_oT Yd (show p≠w2.heap.size by omega) (o:=2) (.int .i64 ((i:Int)+1));have kS:Kp p wd (wd.setCell ⟨p,2,none⟩ (.int .i64 ((i:Int)+1))):=Kp.set _ _ _;have kS2:Kp p w (wd.setCell ⟨p,2,none⟩ (.int .i64 ((i:Int)+1))):=(kr.trans (Kp.of_below kd)).trans kS;have sS:(wd.setCell ⟨p,2,none⟩ (.int .i64 ((i:Int)+1))).heap.size=wr.heap.size:=by rw [← sd];simp [World.setCell]
    have CI:=HIt.out i hlt _ kS2 (by simpa using Ps)
    go_wp2_with fail
    generalize hSw:wd.setCell ⟨p,2,none⟩ (.int .i64 ((i:Int)+1))=W1 at *;refine CI.mono ?_;rintro e w4 ⟨⟨b,z1,ns,u1,z2,ds,u2,rfl,ho1,ho2,hT⟩,k4⟩;clear CI d2 f2;have s4:=k4.size;have kI:=below_alloc w4 (.cells #[.int .u8 1,.bool b,.slice z1 ns.length u1,.slice z2 ds.length u2,.int .i32 0,.slice none 0 0] 93);have BI:=boxA_new w4 #[.int .u8 1,.bool b,.slice z1 ns.length u1,.slice z2 ds.length u2,.int .i32 0,.slice none 0 0] 93;have sI:(w4.alloc (.cells #[.int .u8 1,.bool b,.slice z1 ns.length u1,.slice z2 ds.length u2,.int .i32 0,.slice none 0 0] 93)).heap.size=w4.heap.size+1:=by simp
    have kWI:Below W1.heap.size W1 (w4.alloc (.cells #[.int .u8 1,.bool b,.slice z1 ns.length u1,.slice z2 ds.length u2,.int .i32 0,.slice none 0 0] 93)):=k4.trans (kI.mono s4);have PI:=Ps.below kWI (by omega);have YI:=Ys.below kWI (by omega);have p2:=PI.cell 2 rfl;have p3:=PI.cell 3 rfl;have i1:=BI.cell 0 rfl;have i2:=BI.cell 1 rfl;have i3:=BI.cell 2 rfl;have i4:=BI.cell 3 rfl;have i5:=BI.cell 4 rfl;have i6:=BI.cell 5 rfl;have hle:¬ ((i:Int)+1≤0):=by omega
    go_wp2_with fail
    go_quiet (fail)
    generalize hIw:w4.alloc (.cells #[.int .u8 1,.bool b,.slice z1 ns.length u1,.slice z2 ds.length u2,.int .i32 0,.slice none 0 0] 93)=w5 at *;have kq:Below w5.heap.size w5 (w5.drewN nq):=below_drewN' (Below.refl _ _) nq;have lP5:=PI.lt;have lY5:=YI.lt;have P6:=PI.below kq lP5;have Y6:=YI.below kq lY5;have k6:Below W1.heap.size W1 (w5.drewN nq):=kWI.trans (kq.mono kWI.size);generalize hq6:w5.drewN nq=w6 at *;clear hq6 i1 i2 i3 i4 i5 i6 hIw ho1 ho2;have s6:=k6.size;have HK7:Hid (∀ g,g<u.heap.size→g≠p→g≠w2.heap.size→w6.heap[g]? = u.heap[g]?):=fun g h1 h2 h3=>by
     rw [k6.block g (by omega),kS.block g (by omega) h2,kd.block g (by omega)];exact HK.out g h1 h2 h3
    have Kp7:Kp p w w6:=kS2.trans (Kp.of_below k6);have P8:BoxA w6 p 129 #[.int .i32 gl,F,.int .i64 (((i+1:Nat)):Int),.int .i64 0]:=by simpa using P6
    go_wp2
    go_roundw
    case rel=>exact ⟨i+1,none,0,by go_num,by omega,P8,Y6,⟨rfl,rfl⟩,Kp7,by omega,HK7⟩
    case measure=>simp [intOf];omega
  · obtain rfl:i=n:=by omega
    have Rr:BoxA wr w.heap.size 51 #[.slice none 0 0,.slice none 0 0]:=by
     have:=R3;unfold BoxA at this ⊢;rw [HK.out _ (by omega) (by omega) (by omega)];exact this
    have r0:=Rr.cell 0 rfl;have r1:=Rr.cell 1 rfl;have f0:=Rr.frozen 0;have f1:=Rr.frozen 1;have y0:=Yr.cell 0 rfl;have y1:=Yr.cell 1 rfl;have q2:=Pr.cell 2 rfl;have hgt:¬ (16384:Int)<(i:Int):=by omega
    go_wp2
    have Q:=boxA_s1 (boxA_s0 Rr (.slice x5 sh.length y5)) (.slice none 0 0);have j0:=Q.cell 0 rfl;have j1:=Q.cell 1 rfl;refine bodyPost_ret (v:=.tuple #[.agg #[.slice x5 sh.length y5,.slice none 0 0],.int .i64 0]) (by simp [results,Tryz.results136,go_sem,j0,j1]) rfl ?_;have hKp:Kp p w ((wr.setCell ⟨w.heap.size,0,none⟩ (.slice x5 sh.length y5)).setCell ⟨w.heap.size,1,none⟩ (.slice none 0 0)):=⟨kr.os,kr.tape,kr.output,by rw [set1_size,set1_size];exact kr.size,fun g h1 h2=>by rw [set1_other (by show ¬ w.heap.size=g;omega),set1_other (by show ¬ w.heap.size=g;omega)];exact kr.block g h1 h2⟩;exact ⟨⟨x5,y5,rfl⟩,hKp⟩
end
end Go.Proofs.YtilbfkabfgnhpaaGreat
