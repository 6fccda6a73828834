/- (*glyphref11.Table).where, count; glyphref11.frame.find. -/
import Derived.Test.YtimfnalpmmkndaaGreatDoorRS
import Derived.Test.YtimfnalpmmkndaaGreatDoorNI
set_option maxRecDepth 100000
set_option maxHeartbeats 16000000
set_option linter.unusedVariables false
set_option linter.unusedSimpArgs false
namespace Go.Proofs.YtimfnalpmmkndaaGreatDoor
variable {D:Nat→Prop} {w:World} {R:Nat}
section
open Go.RowKit
attribute [local go_sem] Oper.semAt_some
section
variable {f:Nat} {D:Nat→Prop} {w:World} {rb:Nat} {a:Option Addr} {c:Nat} {R:List RF}
theorem where_any (x:ByteArray) (hB:BoxA w rb 83 #[.slice a R.length c]) (hR:RT f D w (.slice a R.length c) R) (hD:∀ g,D g→g<w.heap.size) :
    Calls Tryz.prog 71 #[.pointer (some ⟨rb,0,none⟩),.string x] w fun e w'=>∃ k:Nat,k<R.length∧e=.returned (.int .i64 k)∧w=w':=by
 have HR:Hid (RT f D w (.slice a R.length c) R):=hR;have c0:=hB.cell 0 rfl;have hp:=hR.pos;have hf:=hR.few;obtain ⟨g,rfl,hgD,hgl,hcell⟩:=hR.row.ptr hp;have HC:Hid (∀ i,i<R.length→w.cell? ⟨g,i*2,none⟩=some (.slice (R.getD i rf0).la (R.getD i rf0).ls.length (R.getD i rf0).lc)):=fun i hi=>by rw [hcell _ (by omega)];exact (rfRow_at hi).1
 have HN:Hid (∀ i,i<R.length→RdS w.heap.size w (.slice (R.getD i rf0).la (R.getD i rf0).ls.length (R.getD i rf0).lc) (R.getD i rf0).ls):=fun i hi=>(hR.frame hi).nm.rd hD;have hw1:IntKind.i64.wrap ((R.length:Int) - 1)=((R.length - 1:Nat):Int):=by rw [IntKind.wrap_i64];omega
 have hz:Hid (R.length - 1<R.length):=by unfold Hid;omega
 generalize R.length - 1=z at *;clear hR hcell hB;go_enter Tryz.func71,Tryz.ntmps71;go_wp2
 go_loopw [5] (fun iv wr=>∃ i:Nat,i<R.length∧iv=.int .i64 i∧wr=w) (fun iv _=>(intOf iv).toNat)
 case atStart=>exact ⟨z,hz.out,rfl,rfl⟩
 case round=>
  obtain ⟨i,hi,rfl,hw⟩:=hrel;obtain rfl:=hw.symm;by_cases h0:0<i
  · have i0:(0:Int)<(i:Int):=by omega
    have i1:(i:Int)<(R.length:Int):=by omega
    have q:=HC.out i hi;have hrd:=HN.out i hi;have hw2:IntKind.i64.wrap ((i:Int) - 1)=((i - 1:Nat):Int):=by rw [IntKind.wrap_i64];omega
    have hj:i - 1<R.length:=by omega
    have hj2:i - 1<i:=by omega
    generalize R.getD i rf0=r at *
    go_wp2_with fail
    refine (refHas11_any x hrd).mono ?_;rintro e w1 ⟨rfl,hw1'⟩;obtain rfl:=hw1'.symm
    cases memT x r.ls with
    | true=>
     go_wp2
     go_ret
     exact ⟨i,hi,rfl,rfl⟩
    | false=>
     generalize i - 1=j at *;go_wp2
     go_roundw
     case rel=>exact ⟨j,hj,rfl,(by first | trivial | rfl)⟩
     case measure=>simp [intOf];omega
  · have i0:¬ (0:Int)<(i:Int):=by omega
    go_wp2
    go_ret
    exact ⟨0,by omega,rfl,rfl⟩
def Told (f:Nat) (D:Nat→Prop) (w:World) (e:Ending) (w':World):Prop:=∃ (y:BV) (r:Bool),e=.returned (.tuple #[.agg y.cells,.bool r])∧GoodB f D w' y∧Below w.heap.size w w'
theorem find_any {r:RF} (x:ByteArray) (h:FrOK f D w r) (hD:∀ g,D g→g<w.heap.size) :
    Calls Tryz.prog 72 #[.agg #[.slice r.la r.ls.length r.lc,.slice r.ea r.E.length r.ec],.string x] w (Told f D w):=by
 have e1:=below_alloc w (.cells #[.slice r.la r.ls.length r.lc,.slice r.ea r.E.length r.ec] 80);have B1:=boxA_new w #[.slice r.la r.ls.length r.lc,.slice r.ea r.E.length r.ec] 80;have e2:=below_alloc (w.alloc (.cells #[.slice r.la r.ls.length r.lc,.slice r.ea r.E.length r.ec] 80)) (.cells bnd0 53);have B2:=boxA_new (w.alloc (.cells #[.slice r.la r.ls.length r.lc,.slice r.ea r.E.length r.ec] 80)) bnd0 53;have B1':=B1.below e2 (by simp);have kw:Below w.heap.size w _:=e1.trans (e2.mono e1.size);rw [World.size_alloc] at B2;have hcap:=h.row.cap;have hfew:=h.few;have HG:Hid (∀ i,i<r.E.length→GoodB f D w (r.E.getD i ev0).2):=fun i hi=>h.good _ (getD_memE hi);have HROW:Hid (RowD D w 128 14 (.slice r.ea r.E.length r.ec) r.E.length (evRow r.E)):=h.row;have HD:Hid (∀ g,D g→g<w.heap.size):=hD;clear h hD e1 e2 B1;go_enter Tryz.func72,Tryz.ntmps72
 go_wp2_with fail
 generalize hA:(w.alloc (.cells #[.slice r.la r.ls.length r.lc,.slice r.ea r.E.length r.ec] 80)).alloc (.cells bnd0 53)=v at *;clear hA;have c1:=B1'.cell 1 rfl;have HB2:Hid (BoxA v (w.heap.size+1) 53 bnd0):=B2;have HK:Hid (Below w.heap.size w v):=kw;clear B1' B2 kw
 go_loopw [6] (fun iv wr=>∃ i:Nat,i≤r.E.length∧iv=.int .i64 i∧wr=v) (fun iv _=>r.E.length - (intOf iv).toNat)
 case atStart=>exact ⟨0,Nat.zero_le _,rfl,rfl⟩
 case round=>
  obtain ⟨i,hi,rfl,hw⟩:=hrel;obtain rfl:=hw.symm;obtain ⟨x0,x1,x2,x3,x4,x5,x6,x7,x8,x9,x10,x11,x12⟩:=cells13 HB2.out;obtain ⟨h0,h1,h2,h3,h4,h5,h6,h7,h8,h9,h10,h11,h12⟩:=frozen13 HB2.out;by_cases hlt:i<r.E.length
  · have i1:(i:Int)<(r.E.length:Int):=by omega
    obtain ⟨g,hgp,hgD,hgl,hcell⟩:=HROW.out.ptr (by omega);have hat:∀ k,k<14→v.cell? ⟨g,i*14+k,none⟩=(EV.cells (r.E.getD i ev0))[k]?:=fun k hk=>by rw [HK.out.cell (p:=⟨g,i*14+k,none⟩) hgl,hcell _ (by omega)];exact evRow_at hlt hk
    obtain ⟨p,hp⟩:∃ p,r.E.getD i ev0=p:=⟨_,rfl⟩;have hgd:=HG.out i hlt;rw [hp] at hat hgd;rw [hgp] at c1;have hst:=same_textR p.1 x;have q0:v.cell? ⟨g,i*14,none⟩=some (.string p.1):=hat 0 (by omega);have q1:v.cell? ⟨g,i*14+1,none⟩=some (.int .i64 p.2.k):=hat 1 (by omega);have q2:v.cell? ⟨g,i*14+2,none⟩=some (.slice p.2.a1 p.2.n1 p.2.y1):=hat 2 (by omega);have q3:v.cell? ⟨g,i*14+3,none⟩=some (.slice p.2.a2 p.2.n2 p.2.y2):=hat 3 (by omega);have q4:v.cell? ⟨g,i*14+4,none⟩=some (.string p.2.s1):=hat 4 (by omega);have q5:v.cell? ⟨g,i*14+5,none⟩=some (.string p.2.s2):=hat 5 (by omega);have q6:v.cell? ⟨g,i*14+6,none⟩=some (.string p.2.s3):=hat 6 (by omega);have q7:v.cell? ⟨g,i*14+7,none⟩=some (.string p.2.s4):=hat 7 (by omega);have q8:v.cell? ⟨g,i*14+8,none⟩=some (.slice p.2.b1 p.2.m1 p.2.z1):=hat 8 (by omega);have q9:v.cell? ⟨g,i*14+9,none⟩=some (.slice p.2.b2 p.2.m2 p.2.z2):=hat 9 (by omega);have q10:v.cell? ⟨g,i*14+10,none⟩=some (.slice p.2.b3 p.2.m3 p.2.z3):=hat 10 (by omega);have q11:v.cell? ⟨g,i*14+11,none⟩=some (.slice p.2.b4 p.2.m4 p.2.z4):=hat 11 (by omega);have q12:v.cell? ⟨g,i*14+12,none⟩=some (.bool p.2.br):=hat 12 (by omega);have q13:v.cell? ⟨g,i*14+13,none⟩=some (.int .i64 p.2.ln):=hat 13 (by omega);have HGD:Hid (GoodB f D w p.2):=hgd;obtain ⟨wz,hwz,Z,KZ,_⟩:=put13 HB2.out HK.out (by omega) (.int .i64 p.2.k) (.slice p.2.a1 p.2.n1 p.2.y1) (.slice p.2.a2 p.2.n2 p.2.y2) (.string p.2.s1) (.string p.2.s2) (.string p.2.s3) (.string p.2.s4) (.slice p.2.b1 p.2.m1 p.2.z1) (.slice p.2.b2 p.2.m2 p.2.z2) (.slice p.2.b3 p.2.m3 p.2.z3) (.slice p.2.b4 p.2.m4 p.2.z4) (.bool p.2.br) (.int .i64 p.2.ln);have HGZ:Hid (GoodB f D wz p.2):=by
     refine HGD.out.imp (fun _ h=>h) (fun g hg => ?_);rw [← hwz,other13 (by have:=HD.out g hg;omega)];exact HK.out.block g (HD.out g hg)
    dsimp only [ch13] at hwz;have HKZ:Hid (Below w.heap.size w wz):=KZ;clear hat hgd hcell KZ HGD;by_cases hx:p.1=x
    · rw [decide_eq_true hx] at hst
      clear hx;go_wp2
      obtain ⟨e0,e1,e2,e3,e4,e5,e6,e7,e8,e9,e10,e11,e12⟩:=cells13 Z
      try simp only [Exit.inBlock,Exit.then]
      refine bodyPost_ret (v:=.tuple #[.agg p.2.cells,.bool true]) ?_ rfl ⟨p.2,true,rfl,HGZ.out,HKZ.out⟩;simp [results,Tryz.results72,go_sem,e0,e1,e2,e3,e4,e5,e6,e7,e8,e9,e10,e11,e12]
    · rw [decide_eq_false hx] at hst
      clear hx;go_wp2
      go_roundw
      case rel=>exact ⟨i+1,by omega,by go_num,(by first | trivial | rfl)⟩
      case measure=>simp [intOf];omega
  · have i1:¬ (i:Int)<(r.E.length:Int):=by omega
    obtain ⟨wz,hwz,Z,KZ,_⟩:=put13 HB2.out HK.out (by omega) (.int .i64 0) (.slice none 0 0) (.slice none 0 0) (.string ⟨#[]⟩) (.string ⟨#[]⟩) (.string ⟨#[]⟩) (.string ⟨#[]⟩) (.slice none 0 0) (.slice none 0 0) (.slice none 0 0) (.slice none 0 0) (.bool false) (.int .i64 0);dsimp only [ch13] at hwz;have HKZ:Hid (Below w.heap.size w wz):=KZ;clear KZ;go_wp2
    obtain ⟨e0,e1,e2,e3,e4,e5,e6,e7,e8,e9,e10,e11,e12⟩:=cells13 Z
    try simp only [Exit.inBlock,Exit.then]
    refine bodyPost_ret (v:=.tuple #[.agg bnd0,.bool false]) ?_ rfl ⟨bv0,false,rfl,goodB_zero f D _,HKZ.out⟩;simp [results,Tryz.results72,go_sem,e0,e1,e2,e3,e4,e5,e6,e7,e8,e9,e10,e11,e12]
theorem refCount11_any (hB:BoxA w rb 83 #[.slice a R.length c]) (hR:RT f D w (.slice a R.length c) R) :
    Calls Tryz.prog 105 #[.pointer (some ⟨rb,0,none⟩)] w fun e w'=>∃ n:Nat,(∀ i,i<R.length→(R.getD i rf0).E.length≤n)∧n≤40000∧e=.returned (.int .i64 n)∧w=w':=by
 have c0:=hB.cell 0 rfl;have hp:=hR.pos;have hf:=hR.few;obtain ⟨g,rfl,hgD,hgl,hcell⟩:=hR.row.ptr hp;have HC:Hid (∀ i,i<R.length→w.cell? ⟨g,i*2+1,none⟩=some (.slice (R.getD i rf0).ea (R.getD i rf0).E.length (R.getD i rf0).ec)):=fun i hi=>by rw [hcell _ (by omega)];exact (rfRow_at hi).2
 have HF:Hid (∀ i,i<R.length→(R.getD i rf0).E.length≤512):=fun i hi=>(hR.frame hi).few;clear hR hcell hB;go_enter Tryz.func105,Tryz.ntmps105;go_wp2
 go_loopw [3,4] (fun nv iv wr=>∃ n i:Nat,i≤R.length∧nv=.int .i64 n∧iv=.int .i64 i∧n≤i*512∧Hid (∀ j,j<i→(R.getD j rf0).E.length≤n)∧wr=w) (fun nv iv _=>R.length - (intOf iv).toNat)
 case atStart=>exact ⟨0,0,Nat.zero_le _,rfl,rfl,by omega,(fun j hj=>by omega),rfl⟩
 case round=>
  obtain ⟨n,i,hi,rfl,rfl,hn,HI,hw⟩:=hrel;obtain rfl:=hw.symm;by_cases hlt:i<R.length
  · have i1:(i:Int)<(R.length:Int):=by omega
    have q:=HC.out i hlt;have hq:=HF.out i hlt;have HJ:Hid (∀ m,m=(R.getD i rf0).E.length→∀ j,j<i+1→(R.getD j rf0).E.length≤n+m):=fun m hm j hj=>by
     by_cases h:j<i
     · have:=HI.out j h;omega
     · obtain rfl:j=i:=by omega
       omega
    obtain ⟨m,hm⟩:∃ m,m=(R.getD i rf0).E.length:=⟨_,rfl⟩;have HJ2:Hid (∀ j,j<i+1→(R.getD j rf0).E.length≤n+m):=HJ.out m hm;rw [← hm] at q hq;clear hm HJ HI;have hw3:IntKind.i64.wrap ((n:Int)+(m:Int))=((n+m:Nat):Int):=by rw [IntKind.wrap_i64];omega
    have hnm:n+m≤(i+1)*512:=by omega
    generalize n+m=s at *;go_wp2
    go_roundw
    case rel=>exact ⟨s,i+1,by omega,rfl,by go_num,hnm,HJ2,(by first | trivial | rfl)⟩
    case measure=>simp [intOf];omega
  · have i1:¬ (i:Int)<(R.length:Int):=by omega
    obtain rfl:i=R.length:=by omega
    go_wp2
    go_ret
    exact ⟨n,HI.out,by omega,rfl,rfl⟩
end
end
section
open Go.RowKit
attribute [local go_sem] Oper.semAt_some
theorem append_nilT {ops:Array Oper} {rest:List Oper} {o:Oper} {a:Act} {Q:Exit→Act→World→Prop} {a1:Option Addr} {c1:Nat} {ss:List ByteArray} (hgd:o.guard=none) (s x:Operand)
    (ho:o.op=.call { callee:=.builtin .append,args:=#[s,x],argTypes:=#[25,25] }) (hs:a.eval s=.slice none 0 0) (hx:a.eval x=.slice a1 ss.length c1) (hR:RdT D w (.slice a1 ss.length c1) ss) (hD:∀ g,D g→g<w.heap.size) (hl:ss.length≤8796093022208)
    (h:∀ x1 y1 w',RdT (Fr w.heap.size w'.heap.size) w' (.slice x1 ss.length y1) ss→Below w.heap.size w w'→wpList Tryz.prog ops Q rest (a.put o.dst (.slice x1 ss.length y1)) w'):wpList Tryz.prog ops Q (o :: rest) a w:=by
 refine append_strs hgd s x ho hs hx (base:=w.heap.size) (xs:=[]) (World.ownsRow_nil _ _ _ _) (hR.rd hD) (by simp;omega) (Nat.le_refl _) ?_;intro v' w' hO hg;rw [List.nil_append] at hO;obtain ⟨x1,y1,rfl⟩:=row_form2S hO;exact h x1 y1 w' (RdT.of_own hO) ((Below.refl _ _).grown hg (Nat.le_refl _) (fun k hk=>by cases hk))
theorem boxA_pt {i ty:Nat} {xs:Array Value} (h:BoxA w R ty xs) (u:Value):BoxA (w.setCell ⟨R,i,none⟩ u) R ty (xs.setIfInBounds i u):=by
 unfold BoxA at h ⊢;simp [World.setCell,Array.getElem?_modify,h]
abbrev ch9 (w:World) (R:Nat) (v0 v1 v2 v3 v4 v5 v6 v7 v8:Value):World:=(((((((((w.setCell ⟨R,0,none⟩ v0).setCell ⟨R,1,none⟩ v1).setCell ⟨R,2,none⟩ v2).setCell ⟨R,3,none⟩ v3).setCell ⟨R,4,none⟩ v4).setCell ⟨R,5,none⟩ v5).setCell ⟨R,6,none⟩ v6).setCell ⟨R,7,none⟩ v7).setCell ⟨R,8,none⟩ v8)
theorem other9 {q:Nat} (hq:¬ R=q) (v0 v1 v2 v3 v4 v5 v6 v7 v8:Value):(ch9 w R v0 v1 v2 v3 v4 v5 v6 v7 v8).heap[q]? = w.heap[q]?:=by
 simp [World.setCell,Array.getElem?_modify,hq]
theorem put9 {C ty:Nat} {a:World} {u0 u1 u2 u3 u4 u5 u6 u7 u8:Value} (h:BoxA w R ty #[u0,u1,u2,u3,u4,u5,u6,u7,u8]) (k:Below C a w) (hR:C≤R) (v0 v1 v2 v3 v4 v5 v6 v7 v8:Value):∃ wz,ch9 w R v0 v1 v2 v3 v4 v5 v6 v7 v8=wz∧BoxA wz R ty #[v0,v1,v2,v3,v4,v5,v6,v7,v8]∧Below C a wz∧wz.heap.size=w.heap.size:=by
 refine ⟨_,rfl,?_,(Below.setCell (Below.setCell (Below.setCell (Below.setCell (Below.setCell (Below.setCell (Below.setCell (Below.setCell (Below.setCell k hR _) hR _) hR _) hR _) hR _) hR _) hR _) hR _) hR _),by simp [World.setCell]⟩;unfold BoxA at h ⊢;simp [World.setCell,Array.getElem?_modify,h]
section
variable {D:Nat→Prop} {w:World} {s1 s2 s3 s4:ByteArray} {b1 b2 b3 b4:Option Addr} {z1 z2 z3 z4:Nat} {l1 l2 l4:List ByteArray} {l3:List Int} {br:Bool}
theorem refCopyFn_any (hL:Lists4 D w b1 b2 b3 b4 z1 z2 z3 z4 l1 l2 l3 l4) (hD:∀ g,D g→g<w.heap.size) (g1:l1.length≤8796093022208) (g2:l2.length≤8796093022208) (g3:l3.length≤17592186044416) (g4:l4.length≤8796093022208) :
    Calls Tryz.prog 70 #[.agg #[.string s1,.string s2,.string s3,.string s4,.slice b1 l1.length z1,.slice b2 l2.length z2,.slice b3 l3.length z3,.slice b4 l4.length z4,.bool br]] w fun e w'=>∃ c1 d1 c2 d2 c3 d3 c4 d4,e=.returned (.agg #[.string s1,.string s2,.string s3,.string s4,.slice c1 l1.length d1,.slice c2 l2.length d2,.slice c3 l3.length d3,.slice c4 l4.length d4,.bool br])∧Lists4 (Fr w.heap.size w'.heap.size) w' c1 c2 c3 c4 d1 d2 d3 d4 l1 l2 l3 l4∧Below w.heap.size w w':=by
 have e1:=below_alloc w (.cells #[.string s1,.string s2,.string s3,.string s4,.slice b1 l1.length z1,.slice b2 l2.length z2,.slice b3 l3.length z3,.slice b4 l4.length z4,.bool br] 36);have B1:=boxA_new w #[.string s1,.string s2,.string s3,.string s4,.slice b1 l1.length z1,.slice b2 l2.length z2,.slice b3 l3.length z3,.slice b4 l4.length z4,.bool br] 36;have e2:=below_alloc (w.alloc (.cells #[.string s1,.string s2,.string s3,.string s4,.slice b1 l1.length z1,.slice b2 l2.length z2,.slice b3 l3.length z3,.slice b4 l4.length z4,.bool br] 36)) (.cells #[.string ⟨#[]⟩,.string ⟨#[]⟩,.string ⟨#[]⟩,.string ⟨#[]⟩,.slice none 0 0,.slice none 0 0,.slice none 0 0,.slice none 0 0,.bool false] 36);have B2:=boxA_new (w.alloc (.cells #[.string s1,.string s2,.string s3,.string s4,.slice b1 l1.length z1,.slice b2 l2.length z2,.slice b3 l3.length z3,.slice b4 l4.length z4,.bool br] 36)) #[.string ⟨#[]⟩,.string ⟨#[]⟩,.string ⟨#[]⟩,.string ⟨#[]⟩,.slice none 0 0,.slice none 0 0,.slice none 0 0,.slice none 0 0,.bool false] 36;have e3:=below_alloc ((w.alloc (.cells #[.string s1,.string s2,.string s3,.string s4,.slice b1 l1.length z1,.slice b2 l2.length z2,.slice b3 l3.length z3,.slice b4 l4.length z4,.bool br] 36)).alloc (.cells #[.string ⟨#[]⟩,.string ⟨#[]⟩,.string ⟨#[]⟩,.string ⟨#[]⟩,.slice none 0 0,.slice none 0 0,.slice none 0 0,.slice none 0 0,.bool false] 36)) (.cells #[.string s1,.string s2,.string s3,.string s4,.slice none 0 0,.slice none 0 0,.slice none 0 0,.slice none 0 0,.bool br] 36);have B3:=boxA_new ((w.alloc (.cells #[.string s1,.string s2,.string s3,.string s4,.slice b1 l1.length z1,.slice b2 l2.length z2,.slice b3 l3.length z3,.slice b4 l4.length z4,.bool br] 36)).alloc (.cells #[.string ⟨#[]⟩,.string ⟨#[]⟩,.string ⟨#[]⟩,.string ⟨#[]⟩,.slice none 0 0,.slice none 0 0,.slice none 0 0,.slice none 0 0,.bool false] 36)) #[.string s1,.string s2,.string s3,.string s4,.slice none 0 0,.slice none 0 0,.slice none 0 0,.slice none 0 0,.bool br] 36;have B1':=(B1.below e2 (by simp)).below e3 (by simp;omega);have B2':=B2.below e3 (by simp);rw [World.size_alloc] at B2';rw [World.size_alloc,World.size_alloc] at B3;have kw:Below w.heap.size w _:=(e1.trans (e2.mono e1.size)).trans (e3.mono (by simp;omega));have hx1:=cells9 (boxA_new w #[.string s1,.string s2,.string s3,.string s4,.slice b1 l1.length z1,.slice b2 l2.length z2,.slice b3 l3.length z3,.slice b4 l4.length z4,.bool br] 36);have HL:Hid (Lists4 D w b1 b2 b3 b4 z1 z2 z3 z4 l1 l2 l3 l4):=hL;have HD:Hid (∀ g,D g→g<w.heap.size):=hD;obtain ⟨x0,x1,x2,x3,x4,x5,x6,x7,x8⟩:=cells9 (B1.below e2 (by simp));clear hL hD hx1;go_enter Tryz.func70,Tryz.ntmps70
 go_upto_region 3 with fail
 generalize hA:((w.alloc (.cells #[.string s1,.string s2,.string s3,.string s4,.slice b1 l1.length z1,.slice b2 l2.length z2,.slice b3 l3.length z3,.slice b4 l4.length z4,.bool br] 36)).alloc (.cells #[.string ⟨#[]⟩,.string ⟨#[]⟩,.string ⟨#[]⟩,.string ⟨#[]⟩,.slice none 0 0,.slice none 0 0,.slice none 0 0,.slice none 0 0,.bool false] 36)).alloc (.cells #[.string s1,.string s2,.string s3,.string s4,.slice none 0 0,.slice none 0 0,.slice none 0 0,.slice none 0 0,.bool br] 36)=v at *;clear hA x0 x1 x2 x3 x4 x5 x6 x7 x8 e1 e2 e3 B1 B2;have lv:=B3.lt;have sv:w.heap.size+3≤v.heap.size:=by omega
 have HV:Hid (∀ V,Below (w.heap.size+2) v V→Lists4 D V b1 b2 b3 b4 z1 z2 z3 z4 l1 l2 l3 l4∧∀ g,D g→g<V.heap.size):=fun V hV=>by
  have s:=hV.size;have hD:∀ g,D g→g<V.heap.size:=fun g hg=>by have:=HD.out g hg;omega
  exact ⟨HL.out.imp (fun _ h=>h) (fun g hg=>(hV.block g (by have:=HD.out g hg;omega)).trans (kw.block g (HD.out g hg))),hD⟩
 have k0:Below (w.heap.size+2) v v:=Below.refl _ _;have xx1:=(B1'.below k0 (by omega)).cell 4 rfl;have yy1:=B3.cell 4 rfl;have nn1:=(HV.out v k0).1.1
 go_wp2_with (at_builtin;refine append_nilT rfl _ _ rfl rfl rfl nn1 (HV.out v k0).2 g1 ?_)
 intro c1 d1 u1 o1 q1;clear xx1 yy1 nn1;have t1:=q1.size;have Bn1:=B3.below q1 (by omega);have fz1:=Bn1.frozen 4;have cz1:=Bn1.cell 4 rfl;have Bp1:BoxA (u1.setCell ⟨w.heap.size+2,4,none⟩ (.slice c1 l1.length d1)) (w.heap.size+2) 36 #[.string s1,.string s2,.string s3,.string s4,.slice c1 l1.length d1,.slice none 0 0,.slice none 0 0,.slice none 0 0,.bool br]:=boxA_pt Bn1 _;have O1:Hid (RdT (Fr (w.heap.size+3) u1.heap.size) (u1.setCell ⟨w.heap.size+2,4,none⟩ (.slice c1 l1.length d1)) (.slice c1 l1.length d1) l1):=o1.imp (fun g hg=>⟨by have:=hg.1;omega,hg.2⟩) (fun g hg=>set1_other (by have:=hg.1;show ¬ w.heap.size+2=g;omega) _);have k1:Below (w.heap.size+2) v (u1.setCell ⟨w.heap.size+2,4,none⟩ (.slice c1 l1.length d1)):=(k0.trans (q1.mono (by have:=k0.size;omega))).setCell (p:=⟨w.heap.size+2,4,none⟩) (Nat.le_refl _) _;obtain ⟨v1,hv1⟩:∃ v1,u1.setCell ⟨w.heap.size+2,4,none⟩ (.slice c1 l1.length d1)=v1:=⟨_,rfl⟩;have sz1:v1.heap.size=u1.heap.size:=by rw [← hv1,set1_size]
 have HSZ1:Hid (v1.heap.size=u1.heap.size):=sz1;rw [hv1] at Bp1 O1 k1;have A1:Hid (∀ g,w.heap.size+3≤g→g<v.heap.size→v1.heap[g]? = v.heap[g]?):=fun g h1 h2=>by rw [← hv1,set1_other (by show ¬ w.heap.size+2=g;omega)];exact q1.block g h2
 have T1:Hid (v.heap.size≤v1.heap.size):=by unfold Hid;omega
 have sv1:w.heap.size+3≤v1.heap.size:=by omega
 clear sz1 o1 q1 Bn1 t1
 go_upto_region 4 with fail
 clear fz1 cz1 hv1;have xx2:=(B1'.below k1 (by omega)).cell 5 rfl;have yy2:=Bp1.cell 5 rfl;have nn2:=(HV.out v1 k1).1.2.1
 go_wp2_with (at_builtin;refine append_nilT rfl _ _ rfl rfl rfl nn2 (HV.out v1 k1).2 g2 ?_)
 intro c2 d2 u2 o2 q2;clear xx2 yy2 nn2;have t2:=q2.size;have Bn2:=Bp1.below q2 (by omega);have fz2:=Bn2.frozen 5;have cz2:=Bn2.cell 5 rfl;have Bp2:BoxA (u2.setCell ⟨w.heap.size+2,5,none⟩ (.slice c2 l2.length d2)) (w.heap.size+2) 36 #[.string s1,.string s2,.string s3,.string s4,.slice c1 l1.length d1,.slice c2 l2.length d2,.slice none 0 0,.slice none 0 0,.bool br]:=boxA_pt Bn2 _;have O2:Hid (RdT (Fr (w.heap.size+3) u2.heap.size) (u2.setCell ⟨w.heap.size+2,5,none⟩ (.slice c2 l2.length d2)) (.slice c2 l2.length d2) l2):=o2.imp (fun g hg=>⟨by have:=hg.1;omega,hg.2⟩) (fun g hg=>set1_other (by have:=hg.1;show ¬ w.heap.size+2=g;omega) _);have k2:Below (w.heap.size+2) v (u2.setCell ⟨w.heap.size+2,5,none⟩ (.slice c2 l2.length d2)):=(k1.trans (q2.mono (by have:=k1.size;omega))).setCell (p:=⟨w.heap.size+2,5,none⟩) (Nat.le_refl _) _;obtain ⟨v2,hv2⟩:∃ v2,u2.setCell ⟨w.heap.size+2,5,none⟩ (.slice c2 l2.length d2)=v2:=⟨_,rfl⟩;have sz2:v2.heap.size=u2.heap.size:=by rw [← hv2,set1_size]
 have HSZ2:Hid (v2.heap.size=u2.heap.size):=sz2;rw [hv2] at Bp2 O2 k2;have A2:Hid (∀ g,w.heap.size+3≤g→g<v1.heap.size→v2.heap[g]? = v1.heap[g]?):=fun g h1 h2=>by rw [← hv2,set1_other (by show ¬ w.heap.size+2=g;omega)];exact q2.block g h2
 have T2:Hid (v1.heap.size≤v2.heap.size):=by unfold Hid;omega
 have sv2:w.heap.size+3≤v2.heap.size:=by omega
 clear sz2 o2 q2 Bn2 t2
 go_upto_region 5 with fail
 clear fz2 cz2 hv2;have xx3:=(B1'.below k2 (by omega)).cell 6 rfl;have yy3:=Bp2.cell 6 rfl;have nn3:=(HV.out v2 k2).1.2.2.1
 go_wp2_with (at_builtin;refine append_nilN rfl _ _ rfl rfl rfl nn3 (by omega) ?_)
 intro c3 d3 u3 o3 q3;clear xx3 yy3 nn3;have t3:=q3.size;have Bn3:=Bp2.below q3 (by omega);have fz3:=Bn3.frozen 6;have cz3:=Bn3.cell 6 rfl;have Bp3:BoxA (u3.setCell ⟨w.heap.size+2,6,none⟩ (.slice c3 l3.length d3)) (w.heap.size+2) 36 #[.string s1,.string s2,.string s3,.string s4,.slice c1 l1.length d1,.slice c2 l2.length d2,.slice c3 l3.length d3,.slice none 0 0,.bool br]:=boxA_pt Bn3 _;have O3:Hid (RdN (Fr (w.heap.size+3) u3.heap.size) (u3.setCell ⟨w.heap.size+2,6,none⟩ (.slice c3 l3.length d3)) (.slice c3 l3.length d3) l3):=o3.imp (fun g hg=>⟨by have:=hg.1;omega,hg.2⟩) (fun g hg=>set1_other (by have:=hg.1;show ¬ w.heap.size+2=g;omega) _);have k3:Below (w.heap.size+2) v (u3.setCell ⟨w.heap.size+2,6,none⟩ (.slice c3 l3.length d3)):=(k2.trans (q3.mono (by have:=k2.size;omega))).setCell (p:=⟨w.heap.size+2,6,none⟩) (Nat.le_refl _) _;obtain ⟨v3,hv3⟩:∃ v3,u3.setCell ⟨w.heap.size+2,6,none⟩ (.slice c3 l3.length d3)=v3:=⟨_,rfl⟩;have sz3:v3.heap.size=u3.heap.size:=by rw [← hv3,set1_size]
 have HSZ3:Hid (v3.heap.size=u3.heap.size):=sz3;rw [hv3] at Bp3 O3 k3;have A3:Hid (∀ g,w.heap.size+3≤g→g<v2.heap.size→v3.heap[g]? = v2.heap[g]?):=fun g h1 h2=>by rw [← hv3,set1_other (by show ¬ w.heap.size+2=g;omega)];exact q3.block g h2
 have T3:Hid (v2.heap.size≤v3.heap.size):=by unfold Hid;omega
 have sv3:w.heap.size+3≤v3.heap.size:=by omega
 clear sz3 o3 q3 Bn3 t3
 go_upto_region 6 with fail
 clear fz3 cz3 hv3;have xx4:=(B1'.below k3 (by omega)).cell 7 rfl;have yy4:=Bp3.cell 7 rfl;have nn4:=(HV.out v3 k3).1.2.2.2
 go_wp2_with (at_builtin;refine append_nilT rfl _ _ rfl rfl rfl nn4 (HV.out v3 k3).2 g4 ?_)
 intro c4 d4 u4 o4 q4;clear xx4 yy4 nn4;have t4:=q4.size;have Bn4:=Bp3.below q4 (by omega);have fz4:=Bn4.frozen 7;have cz4:=Bn4.cell 7 rfl;have Bp4:BoxA (u4.setCell ⟨w.heap.size+2,7,none⟩ (.slice c4 l4.length d4)) (w.heap.size+2) 36 #[.string s1,.string s2,.string s3,.string s4,.slice c1 l1.length d1,.slice c2 l2.length d2,.slice c3 l3.length d3,.slice c4 l4.length d4,.bool br]:=boxA_pt Bn4 _;have O4:Hid (RdT (Fr (w.heap.size+3) u4.heap.size) (u4.setCell ⟨w.heap.size+2,7,none⟩ (.slice c4 l4.length d4)) (.slice c4 l4.length d4) l4):=o4.imp (fun g hg=>⟨by have:=hg.1;omega,hg.2⟩) (fun g hg=>set1_other (by have:=hg.1;show ¬ w.heap.size+2=g;omega) _);have k4:Below (w.heap.size+2) v (u4.setCell ⟨w.heap.size+2,7,none⟩ (.slice c4 l4.length d4)):=(k3.trans (q4.mono (by have:=k3.size;omega))).setCell (p:=⟨w.heap.size+2,7,none⟩) (Nat.le_refl _) _;obtain ⟨v4,hv4⟩:∃ v4,u4.setCell ⟨w.heap.size+2,7,none⟩ (.slice c4 l4.length d4)=v4:=⟨_,rfl⟩;have sz4:v4.heap.size=u4.heap.size:=by rw [← hv4,set1_size]
 have HSZ4:Hid (v4.heap.size=u4.heap.size):=sz4;rw [hv4] at Bp4 O4 k4;have A4:Hid (∀ g,w.heap.size+3≤g→g<v3.heap.size→v4.heap[g]? = v3.heap[g]?):=fun g h1 h2=>by rw [← hv4,set1_other (by show ¬ w.heap.size+2=g;omega)];exact q4.block g h2
 have T4:Hid (v3.heap.size≤v4.heap.size):=by unfold Hid;omega
 have sv4:w.heap.size+3≤v4.heap.size:=by omega
 clear sz4 o4 q4 Bn4 t4
 go_upto_region 7 with fail
 clear fz4 cz4 hv4;have BR:=B2'.below k4 (by omega);obtain ⟨r0,r1,r2,r3,r4,r5,r6,r7,r8⟩:=cells9 BR;obtain ⟨f0,f1,f2,f3,f4,f5,f6,f7,f8⟩:=frozen9 BR;obtain ⟨y0,y1,y2,y3,y4,y5,y6,y7,y8⟩:=cells9 Bp4;obtain ⟨wz,hwz,Z,KZ,hzs⟩:=put9 BR (kw.trans (k4.mono (by omega))) (by omega) (.string s1) (.string s2) (.string s3) (.string s4) (.slice c1 l1.length d1) (.slice c2 l2.length d2) (.slice c3 l3.length d3) (.slice c4 l4.length d4) (.bool br);have HO:Hid (Lists4 (Fr w.heap.size wz.heap.size) wz c1 c2 c3 c4 d1 d2 d3 d4 l1 l2 l3 l4):=by
  have a1:=HSZ1.out;have a2:=HSZ2.out;have a3:=HSZ3.out;have a4:=HSZ4.out;have t2:=T2.out;have t3:=T3.out;have t4:=T4.out;have W4:∀ g,w.heap.size+3≤g→wz.heap[g]? = v4.heap[g]?:=fun g hg=>by rw [← hwz,other9 (by omega)]
  refine ⟨O1.out.imp (fun g hg=>⟨by have:=hg.1;omega,by have:=hg.2;omega⟩) (fun g hg => ?_),O2.out.imp (fun g hg=>⟨by have:=hg.1;omega,by have:=hg.2;omega⟩) (fun g hg => ?_),O3.out.imp (fun g hg=>⟨by have:=hg.1;omega,by have:=hg.2;omega⟩) (fun g hg => ?_),O4.out.imp (fun g hg=>⟨by have:=hg.1;omega,by have:=hg.2;omega⟩) (fun g hg => ?_)⟩
  · have h1:=hg.1;have h2:=hg.2
    rw [W4 g h1,A4.out g h1 (by omega),A3.out g h1 (by omega),A2.out g h1 (by omega)]
  · have h1:=hg.1;have h2:=hg.2
    rw [W4 g h1,A4.out g h1 (by omega),A3.out g h1 (by omega)]
  · have h1:=hg.1;have h2:=hg.2
    rw [W4 g h1,A4.out g h1 (by omega)]
  · have h1:=hg.1
    rw [W4 g h1]
 dsimp only [ch9] at hwz;have HKZ:Hid (Below w.heap.size w wz):=KZ;go_wp2
 obtain ⟨e0,e1,e2,e3,e4,e5,e6,e7,e8⟩:=cells9 Z;refine bodyPost_ret (v:=.agg #[.string s1,.string s2,.string s3,.string s4,.slice c1 l1.length d1,.slice c2 l2.length d2,.slice c3 l3.length d3,.slice c4 l4.length d4,.bool br]) ?_ rfl ⟨c1,d1,c2,d2,c3,d3,c4,d4,rfl,HO.out,HKZ.out⟩;simp [results,Tryz.results70,go_sem,e0,e1,e2,e3,e4,e5,e6,e7,e8]
end
end
section
open Go.RowKit
attribute [local go_sem] Oper.semAt_some
theorem refCopyT_any {f:Nat} {W:World} {x1 x2:Option Addr} {y1 y2:Nat} {t:Tr} (h:ArV (f+1) D W (.slice x1 t.ns.length y1) (.slice x2 t.kids.length y2) t) (hD:∀ g,D g→g<W.heap.size) (hS:smF (f+1) t) :
    Calls Tryz.prog 69 #[.agg #[.slice x1 t.ns.length y1,.slice x2 t.kids.length y2]] W fun e w'=>∃ p1 r1 p2 r2,e=.returned (.agg #[.slice p1 t.ns.length r1,.slice p2 t.kids.length r2])∧ArV (f+1) (Fr W.heap.size w'.heap.size) w' (.slice p1 t.ns.length r1) (.slice p2 t.kids.length r2) t∧Below W.heap.size W w':=by
 refine (refCopy3_any h hD hS).mono ?_;rintro e w' ⟨p1,m1,r1,p2,m2,r2,rfl,h1,h2⟩;obtain rfl:=h1.1.len;obtain rfl:=h1.2.len;exact ⟨p1,r1,p2,r2,rfl,h1,h2⟩
section
variable {D:Nat→Prop} {w:World} {f:Nat} {k ln:Int} {x1 x2:Option Addr} {y1 y2:Nat} {t:Tr} {s1 s2 s3 s4:ByteArray} {b1 b2 b3 b4:Option Addr} {z1 z2 z3 z4:Nat} {l1 l2 l4:List ByteArray} {l3:List Int} {br:Bool}
theorem refCopyB_any (hS0:smF (f+1) t) (hA0:ArV (f+1) D w (.slice x1 t.ns.length y1) (.slice x2 t.kids.length y2) t) (hL0:Lists4 D w b1 b2 b3 b4 z1 z2 z3 z4 l1 l2 l3 l4) (hD:∀ g,D g→g<w.heap.size) (g1:l1.length≤8796093022208) (g2:l2.length≤8796093022208) (g3:l3.length≤17592186044416) (g4:l4.length≤8796093022208) :
    Calls Tryz.prog 144 #[.agg #[.int .i64 k,.slice x1 t.ns.length y1,.slice x2 t.kids.length y2,.string s1,.string s2,.string s3,.string s4,.slice b1 l1.length z1,.slice b2 l2.length z2,.slice b3 l3.length z3,.slice b4 l4.length z4,.bool br,.int .i64 ln]] w fun e w'=>∃ p1 r1 p2 r2 c1 d1 c2 d2 c3 d3 c4 d4,e=.returned (.agg #[.int .i64 k,.slice p1 t.ns.length r1,.slice p2 t.kids.length r2,.string s1,.string s2,.string s3,.string s4,.slice c1 l1.length d1,.slice c2 l2.length d2,.slice c3 l3.length d3,.slice c4 l4.length d4,.bool br,.int .i64 ln])∧ArV (f+1) (Fr w.heap.size w'.heap.size) w' (.slice p1 t.ns.length r1) (.slice p2 t.kids.length r2) t∧Lists4 (Fr w.heap.size w'.heap.size) w' c1 c2 c3 c4 d1 d2 d3 d4 l1 l2 l3 l4∧Below w.heap.size w w':=by
 have e1:=below_alloc w (.cells #[.int .i64 k,.slice x1 t.ns.length y1,.slice x2 t.kids.length y2,.string s1,.string s2,.string s3,.string s4,.slice b1 l1.length z1,.slice b2 l2.length z2,.slice b3 l3.length z3,.slice b4 l4.length z4,.bool br,.int .i64 ln] 53);have B1:=boxA_new w #[.int .i64 k,.slice x1 t.ns.length y1,.slice x2 t.kids.length y2,.string s1,.string s2,.string s3,.string s4,.slice b1 l1.length z1,.slice b2 l2.length z2,.slice b3 l3.length z3,.slice b4 l4.length z4,.bool br,.int .i64 ln] 53;have e2:=below_alloc (w.alloc (.cells #[.int .i64 k,.slice x1 t.ns.length y1,.slice x2 t.kids.length y2,.string s1,.string s2,.string s3,.string s4,.slice b1 l1.length z1,.slice b2 l2.length z2,.slice b3 l3.length z3,.slice b4 l4.length z4,.bool br,.int .i64 ln] 53)) (.cells bnd0 53);have B2:=boxA_new (w.alloc (.cells #[.int .i64 k,.slice x1 t.ns.length y1,.slice x2 t.kids.length y2,.string s1,.string s2,.string s3,.string s4,.slice b1 l1.length z1,.slice b2 l2.length z2,.slice b3 l3.length z3,.slice b4 l4.length z4,.bool br,.int .i64 ln] 53)) bnd0 53;have B1':=B1.below e2 (by simp);have kw:=e1.trans (e2.mono e1.size);have hs0:((w.alloc (.cells #[.int .i64 k,.slice x1 t.ns.length y1,.slice x2 t.kids.length y2,.string s1,.string s2,.string s3,.string s4,.slice b1 l1.length z1,.slice b2 l2.length z2,.slice b3 l3.length z3,.slice b4 l4.length z4,.bool br,.int .i64 ln] 53)).alloc (.cells bnd0 53)).heap.size=w.heap.size+2:=by simp
 rw [World.size_alloc] at B2;go_enter Tryz.func144,Tryz.ntmps144
 go_upto_region 1 with fail
 obtain ⟨v0,hv0⟩:∃ v0,(w.alloc (.cells #[.int .i64 k,.slice x1 t.ns.length y1,.slice x2 t.kids.length y2,.string s1,.string s2,.string s3,.string s4,.slice b1 l1.length z1,.slice b2 l2.length z2,.slice b3 l3.length z3,.slice b4 l4.length z4,.bool br,.int .i64 ln] 53)).alloc (.cells bnd0 53)=v0:=⟨_,rfl⟩;rw [hv0] at B1' B2 kw hs0 ⊢;clear hv0 e1 e2 B1;refine wp_region_noPanic ?_;obtain ⟨v,hv⟩:∃ v,v0.drew=v:=⟨_,rfl⟩;have HB:Hid (BoxA v w.heap.size 53 #[.int .i64 k,.slice x1 t.ns.length y1,.slice x2 t.kids.length y2,.string s1,.string s2,.string s3,.string s4,.slice b1 l1.length z1,.slice b2 l2.length z2,.slice b3 l3.length z3,.slice b4 l4.length z4,.bool br,.int .i64 ln]):=by subst hv;exact B1'
 have HB2:Hid (BoxA v (w.heap.size+1) 53 bnd0):=by subst hv;exact B2
 have HS:Hid (v.heap.size=w.heap.size+2):=by subst hv;exact hs0
 have HK:Hid (Below w.heap.size w v):=by subst hv;exact kw.drew
 have k0:Below (w.heap.size+2) v v:=Below.refl _ _;have ag:∀ V,Below (w.heap.size+2) v V→Agree D w V:=fun V hV g hg=>(hV.block g (by have:=hD g hg;omega)).trans (HK.out.block g (hD g hg));have HA:Hid (∀ V,Below (w.heap.size+2) v V→ArV (f+1) D V (.slice x1 t.ns.length y1) (.slice x2 t.kids.length y2) t):=fun V hV=>hA0.agree (ag V hV);have HL:Hid (∀ V,Below (w.heap.size+2) v V→Lists4 D V b1 b2 b3 b4 z1 z2 z3 z4 l1 l2 l3 l4):=fun V hV=>⟨hL0.1.imp (fun _ h=>h) (ag V hV),hL0.2.1.imp (fun _ h=>h) (ag V hV),hL0.2.2.1.imp (fun _ h=>h) (ag V hV),hL0.2.2.2.imp (fun _ h=>h) (ag V hV)⟩;have HE:Hid (∀ V,Below (w.heap.size+2) v V→∀ g,D g→g<V.heap.size):=fun V hV g hg=>by have:=hD g hg;have:=hV.size;have:=HS.out;omega
 have HC:Hid (∀ V,Below (w.heap.size+2) v V→(fun V=>V.cell? ⟨w.heap.size,0,none⟩=some (.int .i64 k)∧V.cell? ⟨w.heap.size,1,none⟩=some (.slice x1 t.ns.length y1)∧V.cell? ⟨w.heap.size,2,none⟩=some (.slice x2 t.kids.length y2)∧V.cell? ⟨w.heap.size,3,none⟩=some (.string s1)∧V.cell? ⟨w.heap.size,4,none⟩=some (.string s2)∧V.cell? ⟨w.heap.size,5,none⟩=some (.string s3)∧V.cell? ⟨w.heap.size,6,none⟩=some (.string s4)∧V.cell? ⟨w.heap.size,7,none⟩=some (.slice b1 l1.length z1)∧V.cell? ⟨w.heap.size,8,none⟩=some (.slice b2 l2.length z2)∧V.cell? ⟨w.heap.size,9,none⟩=some (.slice b3 l3.length z3)∧V.cell? ⟨w.heap.size,10,none⟩=some (.slice b4 l4.length z4)∧V.cell? ⟨w.heap.size,11,none⟩=some (.bool br)∧V.cell? ⟨w.heap.size,12,none⟩=some (.int .i64 ln)) V):=fun V hV=>cells13 (HB.out.below hV (by omega));clear B1' B2 kw hs0 hA0 hL0 hD ag;refine wp_region_held_drew (S:=(fun V=>V.cell? ⟨w.heap.size,0,none⟩=some (.int .i64 k)∧V.cell? ⟨w.heap.size,1,none⟩=some (.slice x1 t.ns.length y1)∧V.cell? ⟨w.heap.size,2,none⟩=some (.slice x2 t.kids.length y2)∧V.cell? ⟨w.heap.size,3,none⟩=some (.string s1)∧V.cell? ⟨w.heap.size,4,none⟩=some (.string s2)∧V.cell? ⟨w.heap.size,5,none⟩=some (.string s3)∧V.cell? ⟨w.heap.size,6,none⟩=some (.string s4)∧V.cell? ⟨w.heap.size,7,none⟩=some (.slice b1 l1.length z1)∧V.cell? ⟨w.heap.size,8,none⟩=some (.slice b2 l2.length z2)∧V.cell? ⟨w.heap.size,9,none⟩=some (.slice b3 l3.length z3)∧V.cell? ⟨w.heap.size,10,none⟩=some (.slice b4 l4.length z4)∧V.cell? ⟨w.heap.size,11,none⟩=some (.bool br)∧V.cell? ⟨w.heap.size,12,none⟩=some (.int .i64 ln))) (by kernel_rfl) (by rw [hv];exact HC.out v k0) (fun hS => ?_);rw [hv] at hS ⊢;clear hv;refine tk (i:=0) (v:=.pointer (some ⟨w.heap.size,0,none⟩)) ?_;simp only [Act.put,zA,z0Z,z1Z];refine tk (i:=1) (v:=.int .i64 k) ?_;simp only [Act.put,zA,z0Z,z1Z];refine tk (i:=2) (v:=.pointer (some ⟨w.heap.size,1,none⟩)) ?_;simp only [Act.put,zA,z0Z,z1Z];refine tk (i:=3) (v:=.agg #[.slice x1 t.ns.length y1,.slice x2 t.kids.length y2]) ?_;simp only [Act.put,zA,z0Z,z1Z];refine tk (i:=5) (v:=.pointer (some ⟨w.heap.size,3,none⟩)) ?_;simp only [Act.put,zA,z0Z,z1Z];refine tk (i:=6) (v:=.agg #[.string s1,.string s2,.string s3,.string s4,.slice b1 l1.length z1,.slice b2 l2.length z2,.slice b3 l3.length z3,.slice b4 l4.length z4,.bool br]) ?_;simp only [Act.put,zA,z0Z,z1Z];refine tk (i:=8) (v:=.pointer (some ⟨w.heap.size,12,none⟩)) ?_;simp only [Act.put,zA,z0Z,z1Z];refine tk (i:=9) (v:=.int .i64 ln) ?_;simp only [Act.put,zA,z0Z,z1Z];refine wpAnyH_ready (rs:=[4]) (by kernel_rfl) (by simp) ?_;refine AllReadyH.cons rfl (fun K hK => ?_) AllReadyH.nil;go_simp
 refine (refCopyT_any (HA.out v k0) (HE.out v k0) hS0).mono ?_;rintro e w1 ⟨p1,r1,p2,r2,rfl,o1,q1⟩;have k1:Below (w.heap.size+2) v w1:=k0.trans (q1.mono (Nat.le_of_eq HS.out.symm));have j1:=HC.out w1 k1;have O1:Hid (ArV (f+1) (Fr v.heap.size w1.heap.size) w1 (.slice p1 t.ns.length r1) (.slice p2 t.kids.length r2) t):=o1;clear o1;go_simp
 refine hK.out _ _ (j1) (fun _ => ?_);clear hK K;refine wpAnyH_ready (rs:=[7]) (by kernel_rfl) (by simp) ?_;refine AllReadyH.cons rfl (fun K hK => ?_) AllReadyH.nil;go_simp
 refine (refCopyFn_any (HL.out w1 k1) (HE.out w1 k1) g1 g2 g3 g4).mono ?_;rintro e w2 ⟨c1,d1,c2,d2,c3,d3,c4,d4,rfl,o2,q2⟩;have k2:Below (w.heap.size+2) v w2:=k1.trans (q2.mono (by have:=HS.out;have:=k1.size;omega));have j2:=HC.out w2 k2;have O2:Hid (Lists4 (Fr w1.heap.size w2.heap.size) w2 c1 c2 c3 c4 d1 d2 d3 d4 l1 l2 l3 l4):=o2;clear o2;have BR:=HB2.out.below k2 (by omega);obtain ⟨x0,xx1,xx2,x3,x4,x5,x6,x7,x8,x9,x10,x11,x12⟩:=cells13 BR;obtain ⟨h0,h1,h2,h3,h4,h5,h6,h7,h8,h9,h10,h11,h12⟩:=frozen13 BR;have hsz:=Nat.le_trans (Nat.le_of_eq HS.out.symm) k2.size;have JE:Hid ((fun V=>V.cell? ⟨w.heap.size,0,none⟩=some (.int .i64 k)∧V.cell? ⟨w.heap.size,1,none⟩=some (.slice x1 t.ns.length y1)∧V.cell? ⟨w.heap.size,2,none⟩=some (.slice x2 t.kids.length y2)∧V.cell? ⟨w.heap.size,3,none⟩=some (.string s1)∧V.cell? ⟨w.heap.size,4,none⟩=some (.string s2)∧V.cell? ⟨w.heap.size,5,none⟩=some (.string s3)∧V.cell? ⟨w.heap.size,6,none⟩=some (.string s4)∧V.cell? ⟨w.heap.size,7,none⟩=some (.slice b1 l1.length z1)∧V.cell? ⟨w.heap.size,8,none⟩=some (.slice b2 l2.length z2)∧V.cell? ⟨w.heap.size,9,none⟩=some (.slice b3 l3.length z3)∧V.cell? ⟨w.heap.size,10,none⟩=some (.slice b4 l4.length z4)∧V.cell? ⟨w.heap.size,11,none⟩=some (.bool br)∧V.cell? ⟨w.heap.size,12,none⟩=some (.int .i64 ln)) (ch13 w2 (w.heap.size+1) (.int .i64 k) (.slice p1 t.ns.length r1) (.slice p2 t.kids.length r2) (.string s1) (.string s2) (.string s3) (.string s4) (.slice c1 l1.length d1) (.slice c2 l2.length d2) (.slice c3 l3.length d3) (.slice c4 l4.length d4) (.bool br) (.int .i64 ln))):=by
  have hb:=HB.out.below k2 (by omega);have hb2:BoxA (ch13 w2 (w.heap.size+1) (.int .i64 k) (.slice p1 t.ns.length r1) (.slice p2 t.kids.length r2) (.string s1) (.string s2) (.string s3) (.string s4) (.slice c1 l1.length d1) (.slice c2 l2.length d2) (.slice c3 l3.length d3) (.slice c4 l4.length d4) (.bool br) (.int .i64 ln)) w.heap.size 53 #[.int .i64 k,.slice x1 t.ns.length y1,.slice x2 t.kids.length y2,.string s1,.string s2,.string s3,.string s4,.slice b1 l1.length z1,.slice b2 l2.length z2,.slice b3 l3.length z3,.slice b4 l4.length z4,.bool br,.int .i64 ln]:=by
   unfold BoxA at hb ⊢;rw [other13 (by omega)];exact hb
  exact cells13 hb2
 clear hsz;go_simp
 refine hK.out _ _ (j2) (fun _ => ?_);clear hK K;refine tk (i:=10) (v:=.agg #[.int .i64 k,.slice p1 t.ns.length r1,.slice p2 t.kids.length r2,.string s1,.string s2,.string s3,.string s4,.slice c1 l1.length d1,.slice c2 l2.length d2,.slice c3 l3.length d3,.slice c4 l4.length d4,.bool br,.int .i64 ln]) ?_;simp only [Act.put,zA,z0Z,z1Z];refine wpAnyH_ready (rs:=[11]) (by kernel_rfl) (by simp) ?_;refine AllReadyH.cons rfl (fun K hK => ?_) AllReadyH.nil;go_simp
 go_simp
 refine hK.out _ _ (JE.out) (fun _ => ?_);clear hK K;refine wpAnyH_done (by kernel_rfl) ?_ _;have Z:=set13 BR (.int .i64 k) (.slice p1 t.ns.length r1) (.slice p2 t.kids.length r2) (.string s1) (.string s2) (.string s3) (.string s4) (.slice c1 l1.length d1) (.slice c2 l2.length d2) (.slice c3 l3.length d3) (.slice c4 l4.length d4) (.bool br) (.int .i64 ln);have KZ:=below13 (R:=w.heap.size+1) (HK.out.trans (k2.mono (by omega))) (by omega) (.int .i64 k) (.slice p1 t.ns.length r1) (.slice p2 t.kids.length r2) (.string s1) (.string s2) (.string s3) (.string s4) (.slice c1 l1.length d1) (.slice c2 l2.length d2) (.slice c3 l3.length d3) (.slice c4 l4.length d4) (.bool br) (.int .i64 ln);have AZ:(ch13 w2 (w.heap.size+1) (.int .i64 k) (.slice p1 t.ns.length r1) (.slice p2 t.kids.length r2) (.string s1) (.string s2) (.string s3) (.string s4) (.slice c1 l1.length d1) (.slice c2 l2.length d2) (.slice c3 l3.length d3) (.slice c4 l4.length d4) (.bool br) (.int .i64 ln)).heap.size=w2.heap.size∧∀ g,w.heap.size+1<g→(ch13 w2 (w.heap.size+1) (.int .i64 k) (.slice p1 t.ns.length r1) (.slice p2 t.kids.length r2) (.string s1) (.string s2) (.string s3) (.string s4) (.slice c1 l1.length d1) (.slice c2 l2.length d2) (.slice c3 l3.length d3) (.slice c4 l4.length d4) (.bool br) (.int .i64 ln)).heap[g]? = w2.heap[g]?:=⟨by simp [World.setCell],fun g hg=>other13 (by omega) _ _ _ _ _ _ _ _ _ _ _ _ _⟩;obtain ⟨w6,hw6⟩:∃ w6,ch13 w2 (w.heap.size+1) (.int .i64 k) (.slice p1 t.ns.length r1) (.slice p2 t.kids.length r2) (.string s1) (.string s2) (.string s3) (.string s4) (.slice c1 l1.length d1) (.slice c2 l2.length d2) (.slice c3 l3.length d3) (.slice c4 l4.length d4) (.bool br) (.int .i64 ln)=w6:=⟨_,rfl⟩;rw [hw6] at Z KZ AZ;dsimp only [ch13] at hw6;rw [hw6];have HKZ:Hid (Below w.heap.size w w6):=KZ;have HO:Hid (ArV (f+1) (Fr w.heap.size w6.heap.size) w6 (.slice p1 t.ns.length r1) (.slice p2 t.kids.length r2) t∧Lists4 (Fr w.heap.size w6.heap.size) w6 c1 c2 c3 c4 d1 d2 d3 d4 l1 l2 l3 l4):=by
  have s0:=HS.out;have t1:=q1.size;have t2:=q2.size;obtain ⟨a1,a2⟩:=AZ;have m1:∀ g,Fr v.heap.size w1.heap.size g→Fr w.heap.size w6.heap.size g:=fun g hg=>⟨by have:=hg.1;omega,by have:=hg.2;omega⟩;have m2:∀ g,Fr w1.heap.size w2.heap.size g→Fr w.heap.size w6.heap.size g:=fun g hg=>⟨by have:=hg.1;omega,by have:=hg.2;omega⟩;have A1:Agree (Fr v.heap.size w1.heap.size) w1 w6:=fun g hg=>by
   have:=hg.1;have:=hg.2;rw [a2 g (by omega),q2.block g (by omega)]
  have A2:Agree (Fr w1.heap.size w2.heap.size) w2 w6:=fun g hg=>by
   have:=hg.1;have:=hg.2;rw [a2 g (by omega)]
  exact ⟨ArV.imp m1 A1 _ _ _ _ _ (Nat.le_refl _) O1.out,O2.out.1.imp m2 A2,O2.out.2.1.imp m2 A2,O2.out.2.2.1.imp m2 A2,O2.out.2.2.2.imp m2 A2⟩
 clear KZ AZ O1 O2 q1 q2 k0 k1 k2 j1 j2 HA HL HE HC HB HB2 HS HK hS JE;dsimp only [NoPanic];clear hw6;go_wp2
 obtain ⟨e0,e1,e2,e3,e4,e5,e6,e7,e8,e9,e10,e11,e12⟩:=cells13 Z;refine bodyPost_ret (v:=.agg #[.int .i64 k,.slice p1 t.ns.length r1,.slice p2 t.kids.length r2,.string s1,.string s2,.string s3,.string s4,.slice c1 l1.length d1,.slice c2 l2.length d2,.slice c3 l3.length d3,.slice c4 l4.length d4,.bool br,.int .i64 ln]) ?_ rfl ⟨p1,r1,p2,r2,c1,d1,c2,d2,c3,d3,c4,d4,rfl,HO.out.1,HO.out.2,HKZ.out⟩;simp [results,Tryz.results144,go_sem,e0,e1,e2,e3,e4,e5,e6,e7,e8,e9,e10,e11,e12]
end
theorem refCopied_good {f:Nat} {x:BV} (h:GoodB f D w x) (hD:∀ g,D g→g<w.heap.size) :
    Calls Tryz.prog 144 #[.agg x.cells] w fun e w'=>∃ y:BV,e=.returned (.agg y.cells)∧GoodB f (Fr w.heap.size w'.heap.size) w' y∧Below w.heap.size w w':=by
 obtain ⟨b,⟨⟨x1,y1,x2,y2,b1,z1,b2,z2,b3,z3,b4,z4,rfl,h1,h2⟩,hs⟩,hm⟩:=h;refine (refCopyB_any hm h1 h2 hD hs.1 hs.2.1 hs.2.2.1 hs.2.2.2).mono ?_;rintro e w' ⟨p1,r1,p2,r2,c1,d1,c2,d2,c3,d3,c4,d4,rfl,h3,h4,h5⟩;exact ⟨⟨b.k,p1,b.t.ns.length,r1,p2,b.t.kids.length,r2,b.s1,b.s2,b.s3,b.s4,c1,b.l1.length,d1,c2,b.l2.length,d2,c3,b.l3.length,d3,c4,b.l4.length,d4,b.br,b.ln⟩,rfl,⟨b,⟨⟨p1,r1,p2,r2,c1,d1,c2,d2,c3,d3,c4,d4,rfl,h3,h4⟩,hs⟩,hm⟩,h5⟩
end
end Go.Proofs.YtimfnalpmmkndaaGreatDoor
