/- law04.live: what lex.All tells of one line. -/
import Derived.Test.YtimfnalpmmkndaaGreatDoorLA
import Derived.Test.YtimfnalpmmkndaaGreatDoorJ7
import Derived.Test.YtimfnalpmmkndaaGreatDoorJ5
import Derived.Deep.RegionWith
import Derived.Test.YtimfnalpmmkndaaGreatDoorJ8
import Derived.Deep.Cut
import Derived.Deep.CutRange
import Derived.Test.YtimfnalpmmkndaaGreatDoorRK
set_option maxRecDepth 100000
set_option maxHeartbeats 16000000
set_option linter.unusedVariables false
set_option linter.unusedSimpArgs false
namespace Go.Proofs.YtimfnalpmmkndaaGreatDoor
variable {w:World} {b:Bool} {ns ds:List Int}
section
open Go.RowKit Go.Shelf
def t15:ByteArray:=⟨#[49,46,53]⟩
section
variable {ne:ByteArray→Int}
end
end
section
open Go.RowKit
theorem decodeGo_cut (s:ByteArray) (pos:Nat) (h:pos<s.size):Lib.decodeGo (s.extract pos s.size)=Utf8.decode s pos:=by
 have hx:(s.extract pos s.size).data.toList=s.data.toList.drop pos:=by
  rw [ByteArray.data_extract,Array.toList_extract,List.extract];rw [List.take_of_length_le (by simp)]
 have hsz:(s.extract pos s.size).size≠0:=by simp;omega
 unfold Lib.decodeGo;rw [if_neg hsz,← Lib.decodeL_drop s pos,← Lib.decodeL_drop (s.extract pos s.size) 0,hx];rfl
theorem decodeIn (s:ByteArray) (w:World) (h0:0<s.size) (hT:Lib.Utf8Tabs 0 1 w) :
    Calls Tryz.prog 93 #[.string s] w fun e w'=>e=.returned (.tuple #[.int .i32 ((Lib.decodeGo s).1:Nat),.int .i64 ((Lib.decodeGo s).2:Nat)])∧Below w.heap.size w w':=by
 have hd:Lib.decodeGo s=Utf8.decode s 0:=by unfold Lib.decodeGo;rw [if_neg (by omega)]
 have hne:s.toList.isEmpty=false:=by
  cases hl:s.toList with
  | cons x l=>rfl
  | nil=>
   rw [Lib.toList_data] at hl;have:=congrArg List.length hl;rw [Array.length_toList,show s.data.size=s.size from rfl] at this;rw [List.length_nil] at this;omega
 by_cases ha:(s[0]'h0).toNat<128
 · have HV:Hid (Lib.decodeGo s=((s[0]'h0).toNat,1)):=by unfold Hid;rw [hd];exact decode_ascii s 0 h0 ha
   have hlt:(((s[0]'h0).toNat:Nat):Int)<128:=by omega
   clear hd ha;go_enter Tryz.func93,Tryz.ntmps93;go_wp2
   refine bodyPost_ret (v:=.tuple #[.int .i32 (s[0]'h0).toNat,.int .i64 1]) (by simp [results,Tryz.results93,go_sem]) rfl ?_;exact ⟨by rw [HV.out];rfl,Below.refl _ _⟩
 · have hge:128≤(((s[0]'h0).toNat:Nat):Int):=by omega
   clear hd ha;go_enter Tryz.func93,Tryz.ntmps93
   go_wp2_with fail
   refine (Tryz.utf8_decodeRuneInStringSlow s _ hT).mono ?_;rintro e w' ⟨rfl,hb⟩;go_wp2
   refine bodyPost_ret (v:=.tuple #[.int .i32 ((Lib.decodeGo s).1:Nat),.int .i64 ((Lib.decodeGo s).2:Nat)]) (by simp [results,Tryz.results93,go_sem]) rfl ?_;exact ⟨rfl,hb⟩
theorem Utf8Tabs.to {w':World} {B:Nat} (h:Lib.Utf8Tabs 0 1 w) (hb:Below B w w') (hB:w.heap.size≤B):Lib.Utf8Tabs 0 1 w':=Utf8Tabs_below h (hb.mono hB)
def strLen:Value→Nat | .string b=>b.size | _=>0
theorem cut_cut (s:ByteArray) (pos n:Nat) (h:pos+n≤s.size):(s.extract pos s.size).extract n (s.extract pos s.size).size=s.extract (pos+n) s.size:=by
 rw [ByteArray.extract_extract,ByteArray.size_extract]
 congr 1
 omega
theorem refRunes_any (s:ByteArray) (w:World) (hs:s.size≤2000000) (hT:Lib.Utf8Tabs 0 1 w) :
    Calls Tryz.prog 64 #[.string s] w fun e w'=>∃ cs a c er at',e=.returned (.tuple #[.slice a cs.length c,.int .i64 er,.int .i64 ((at':Nat):Int)])∧OwnR w.heap.size w' (.slice a cs.length c) cs∧Hid (scanR s s.size 0 []=(cs,er,at'))∧Below w.heap.size w w':=by
 obtain ⟨i0,hi,hz0,hz1,hz2⟩:=info_parts info_i32;have HT:Hid (Lib.Utf8Tabs 0 1 w):=hT;clear hT;go_enter Tryz.func64,Tryz.ntmps64;go_wp2
 go_loopw [0,5] (fun sv out wr=>∃ (pos fuel:Nat) (cs:List Int) (a:Option Addr) (c:Nat) (t:ByteArray),sv=.string t∧out=.slice a cs.length c∧OwnR w.heap.size wr (.slice a cs.length c) cs∧Hid (t=s.extract pos s.size)∧t.size+pos=s.size∧Hid (scanR s fuel pos cs=scanR s s.size 0 [])∧s.size≤pos+fuel∧cs.length≤pos∧pos≤s.size∧Below w.heap.size w wr) (fun sv _ _=>strLen sv)
 case atStart=>exact ⟨0,s.size,[],none,0,s,rfl,rfl,World.ownsRow_nil _ _ _ _,(by unfold Hid;simp),by omega,rfl,by omega,by simp,by omega,Below.refl _ _⟩
 case round=>
  obtain ⟨pos,fuel,cs,a,c,t,rfl,rfl,hO,HTT,htl,HD,hf,hcl,hps,hb⟩:=hrel;have hsz:=hb.size;by_cases hp:pos<s.size
  · have hwd:=Lib.decode_width_pos s pos hp
    have hwe:=dec_end s pos hp;obtain ⟨f,rfl⟩:∃ f,fuel=f+1:=⟨fuel - 1,by omega⟩;have HS:Hid (scanR s (f+1) pos cs=if (Utf8.decode s pos).1=65533∧(Utf8.decode s pos).2=1 then ([],26,cs.length) else scanR s f (pos+(Utf8.decode s pos).2) (cs++[((Utf8.decode s pos).1:Int)])):=by
     unfold Hid;rw [scanR,if_pos hp]
    have hdc:Lib.decodeGo t=Utf8.decode s pos:=by rw [HTT.out];exact decodeGo_cut s pos hp
    have HX:Hid (t.extract (Utf8.decode s pos).2 t.size=s.extract (pos+(Utf8.decode s pos).2) s.size):=by
     unfold Hid;rw [HTT.out];exact cut_cut s pos _ hwe
    have hpos:¬ ((t.size:Nat):Int)≤0:=by omega
    go_wp2_with fail
    refine (decodeIn t _ (by omega) (Utf8Tabs.to HT.out hb (Nat.le_refl _))).mono ?_;rintro e w1 ⟨rfl,k1⟩;rw [hdc];have hO1:=hO.below k1 (Nat.le_refl _);have hb1:=hb.trans (k1.mono hsz);have s1:=k1.size;clear hdc hO hb k1;generalize (Utf8.decode s pos).2=n at *;generalize (Utf8.decode s pos).1=C at *;by_cases hbad:C=65533∧n=1
    · have hC:(((C:Nat):Int)==65533)=true:=by rw [beq_iff_eq];omega
      have hN:(((n:Nat):Int)==1)=true:=by rw [beq_iff_eq];omega
      have HE:Hid (scanR s s.size 0 []=([],26,cs.length)):=by unfold Hid;rw [← HD.out,HS.out,if_pos hbad]
      clear hbad;go_wp2
      refine bodyPost_ret (v:=.tuple #[.slice none 0 0,.int .i64 26,.int .i64 cs.length]) (by simp [results,Tryz.results64,go_sem]) rfl ?_;exact ⟨[],none,0,26,cs.length,rfl,World.ownsRow_nil _ _ _ _,HE,hb1⟩
    have HS2:Hid (scanR s f (pos+n) (cs++[(C:Int)])=scanR s s.size 0 []):=by unfold Hid;rw [← HD.out,HS.out,if_neg hbad]
    by_cases hC3:C=65533
    case' pos=>
     have hC:(((C:Nat):Int)==65533)=true:=by rw [beq_iff_eq];omega
     have hN:(((n:Nat):Int)==1)=false:=by rw [beq_eq_false_iff_ne];omega
     clear hC3 hbad
    case' neg=>
     have hC:(((C:Nat):Int)==65533)=false:=by rw [beq_eq_false_iff_ne];omega
     clear hC3 hbad
    all_goals
     go_wp2_with (at_builtin;refine wpList_append_own _ rfl _ _ 116 rfl w.heap.size 21 i0 (.int .i32 0) 1 4 Tryz.underlying116 hi hz0 hz1 hz2 rfl (by decide) _ _ _ rfl (hO1.alloc _) ⟨_,0,none⟩ 1 1 [.int .i32 C] rfl rfl ?c1 ?c2 ?c3 ?c4 ?c5 ?_)
     case c1=>
      intro j u hj
      match j,hj with
      | 0,hj=>simp at hj;subst hj;simp [Addr.add]
     case c2=>intro u hu;simp at hu;subst hu;rfl
     case c3=>unfold maxLen;omega
     case c4=>omega
     case c5=>simp;omega
     intro v' w2 hown' hgrow _;have hO3:OwnR w.heap.size w2 v' (cs++[(C:Int)]):=by
      unfold OwnR;rw [List.length_append,List.map_append];exact hown'
     obtain ⟨a2,c2,rfl⟩:=hO3.form;have hrow:∀ k,(Value.slice a cs.length c).ownBlock=some k→w.heap.size≤k:=fun k hk=>(hO1.lt k hk).1;have hb3:Below w.heap.size w w2:=(hb1.alloc (by omega) _).grown hgrow (by simp;omega) (fun k hk=>hrow k hk);clear hown' hgrow hO1 hb1 hrow;go_wp2
     go_roundw
     case rel=>exact ⟨pos+n,f,cs++[(C:Int)],a2,c2,_,rfl,(by first | rfl | simp),hO3,HX,(by have:=congrArg ByteArray.size HX.out;simp at this ⊢;omega),HS2,by omega,(by simp;omega),by omega,hb3⟩
     case measure=>simp [strLen];omega
  · have HE:Hid (scanR s s.size 0 []=(cs,0,0)):=by
     unfold Hid;rw [← HD.out]
     cases fuel with
     | zero=>rfl
     | succ f=>rw [scanR,if_neg hp]
    have hpos:((t.size:Nat):Int)≤0:=by omega
    go_wp2
    refine bodyPost_ret (v:=.tuple #[.slice a cs.length c,.int .i64 0,.int .i64 0]) (by simp [results,Tryz.results64,go_sem]) rfl ?_;exact ⟨cs,a,c,0,0,rfl,hO,HE,hb⟩
theorem refIn_any (s:ByteArray) (c:Int) (w:World) :
    Calls Tryz.prog 101 #[.int .i32 c,.string s] w fun e w'=>e=.returned (.bool (decide (c∈decs s s.size 0)))∧Below w.heap.size w w':=by
 go_enter Tryz.func101,Tryz.ntmps101;go_wp2
 go_loopw [] (fun wr=>∃ (pos fuel:Nat),wr=w.iter s pos∧Hid (c∈decs s fuel pos↔c∈decs s s.size 0)∧s.size≤pos+fuel∧pos≤s.size) (fun wr=>s.size - wr.iterPos w.heap.size)
 case atStart=>exact ⟨0,s.size,rfl,Iff.rfl,by omega,by omega⟩
 case round=>
  obtain ⟨pos,fuel,rfl,HM,hf,hps⟩:=hrel;by_cases hp:pos<s.size
  · have hnx:∀ ty,(Instr.next (.pointer (some ⟨w.heap.size,0,none⟩)) true ty).run Tryz.prog (w.iter s pos)=_:=fun ty=>run_next_any w s pos ty hp
    have hwd:=Lib.decode_width_pos s pos hp;have hwe:=dec_end s pos hp;obtain ⟨f,rfl⟩:∃ f,fuel=f+1:=⟨fuel - 1,by omega⟩;have HS:Hid (decs s (f+1) pos=((Utf8.decode s pos).1:Int) :: decs s f (pos+(Utf8.decode s pos).2)):=by
     unfold Hid;rw [decs,if_pos hp]
    generalize (Utf8.decode s pos).2=n at *;generalize (Utf8.decode s pos).1=C at *;have HB:Below w.heap.size w (w.iter s (pos+n)):=below_alloc _ _;by_cases he:(C:Int)=c
    · have e1:((C:Int)==c)=true:=by rw [beq_iff_eq];exact he
      have HR:Hid (decide (c∈decs s s.size 0)=true):=by
       unfold Hid;rw [decide_eq_true_iff,← HM.out,HS.out,he];simp
      clear he;go_wp2
      go_ret
      exact ⟨by rw [HR.out];rfl,HB⟩
    · have e1:((C:Int)==c)=false:=by rw [beq_eq_false_iff_ne];exact he
      have HM2:Hid (c∈decs s f (pos+n)↔c∈decs s s.size 0):=by
       unfold Hid;rw [← HM.out,HS.out,List.mem_cons];exact ⟨Or.inr,fun h=>h.resolve_left (fun h=>he h.symm)⟩
      clear he;go_wp2
      go_roundw
      case rel=>exact ⟨pos+n,f,rfl,HM2,by omega,by omega⟩
      case measure=>simp only [World.iterPos_iter];omega
  · have hnx:∀ ty,(Instr.next (.pointer (some ⟨w.heap.size,0,none⟩)) true ty).run Tryz.prog (w.iter s pos)=_:=fun ty=>run_next_end w s pos ty hp
    have HR:Hid (decide (c∈decs s s.size 0)=false):=by
     unfold Hid;rw [decide_eq_false_iff_not,← HM.out]
     cases fuel <;> simp [decs,hp]
    have HB:Below w.heap.size w (w.iter s pos):=below_alloc _ _;go_wp2
    go_ret
    exact ⟨by rw [HR.out];rfl,HB⟩
theorem refPrims_any (w:World):Calls Tryz.prog 138 #[] w fun e w'=>e=.returned (.string prims)∧w'=w:=by
 go_enter Tryz.func138,Tryz.ntmps138;go_wp2
 go_ret
 exact ⟨rfl,rfl⟩
theorem refIsPrimitive_any (c:Int) (w:World):Calls Tryz.prog 100 #[.int .i32 c] w fun e w'=>e=.returned (.bool (decide (c∈decs prims prims.size 0)))∧Below w.heap.size w w':=by
 go_enter Tryz.func100,Tryz.ntmps100
 go_wp2_with fail
 refine (refPrims_any _).mono ?_;rintro e w' ⟨rfl,rfl⟩
 go_wp2_with fail
 refine (refIn_any prims c _).mono ?_;rintro e w1 ⟨rfl,hb⟩;obtain ⟨r,hr⟩:∃ r,decide (c∈decs prims prims.size 0)=r:=⟨_,rfl⟩;have HR:Hid (decide (c∈decs prims prims.size 0)=r):=hr;rw [hr];clear hr;go_wp2
 go_ret
 exact ⟨by rw [HR.out];rfl,hb⟩
theorem refParse_any (s:ByteArray) (l:List UInt8) (hl:Hid (s.data.toList=l)) (hb:l.length≤100000) :
    Calls Tryz.prog 132 #[.string s] w fun e w'=>Parses w l e w':=by
 have hsz:s.size=l.length:=by rw [← hl.out];rfl
 go_enter Tryz.func132,Tryz.ntmps132;go_wp2
 go_loopw [4,5] (fun nv ii wr=>∃ (i:Nat) (zs:List Int) (a:Option Addr) (c:Nat),i≤l.length∧ii=.int .i64 i∧nv=.slice a zs.length c∧can zs∧Hid (digs (l.take i)∧val zs=dval (l.take i))∧zs.length≤3*i∧Hid (i=0→a=none∧c=0)∧Own w.heap.size wr (.slice a zs.length c) zs∧Below w.heap.size w wr)
  (fun _ ii _=>l.length - (intOf ii).toNat)
 case atStart=>exact ⟨0,[],none,0,Nat.zero_le _,rfl,rfl,can_nil,⟨(fun b hb=>by simp at hb),rfl⟩,by simp,(fun _=>⟨rfl,rfl⟩),own_nil _ _,Below.refl _ _⟩
 case round=>
  obtain ⟨i,zs,a,c,hi,rfl,rfl,cz,hdz,hzl,h00,oz,hbl⟩:=hrel;have hs:=hbl.size;by_cases hlt:i<l.length
  · have his:i<s.size:=by omega
    have hse:s[i].toNat=l[i].toNat:=by rw [byte_at hl.out i hlt]
    have HM:Hid (l[i]∈l):=List.getElem_mem hlt;have HT:Hid (48≤l[i].toNat→l[i].toNat≤57→digs (l.take (i+1))∧dval (l.take (i+1))=dval (l.take i)*10+(l[i].toNat - 48)):=by
     intro h1 h2;rw [List.take_succ_eq_append_getElem hlt];refine ⟨fun b hb => ?_,dval_snoc _ _⟩;rw [List.mem_append] at hb;rcases hb with hb | hb
     · exact hdz.out.1 b hb
     · rw [List.mem_singleton] at hb;subst hb;exact ⟨h1,h2⟩
    have HN:Hid (l[i].toNat<48∨57<l[i].toNat→¬ isNum l):=by
     intro h hn;have:=hn.1 _ HM.out;omega
    clear HM;generalize l[i].toNat=D at *;have hcs:D<48∨(¬ D<48∧57<D)∨(¬ D<48∧¬ 57<D):=by omega
    rcases hcs with h | ⟨h,h'⟩ | ⟨h,h'⟩
    · have HX:Hid (¬ isNum l):=HN.out (Or.inl h)
      go_wp2
      go_ret2
      exact ⟨hbl,fun h=>absurd h HX.out,fun _=>rfl⟩
    · have HX:Hid (¬ isNum l):=HN.out (Or.inr h')
      go_wp2
      go_ret2
      exact ⟨hbl,fun h=>absurd h HX.out,fun _=>rfl⟩
    · have HX:=HT.out (by omega) (by omega)
      have HX2:Hid (digs (l.take (i+1))∧((dval (l.take (i+1)):Nat):Int)=val zs*10+((D:Int) - 48)):=⟨HX.1,by rw [HX.2,hdz.out.2];omega⟩;clear HX HT HN;have ozd:Own w.heap.size wr.drew (.slice a zs.length c) zs:=oz;have hz1:=(ozd.alloc (.cells #[.int .u32 10] 196)).rd;have h10:Own wr.drew.heap.size (wr.drew.alloc (.cells #[.int .u32 10] 196)) (.slice (some ⟨wr.drew.heap.size,0,none⟩) 1 1) [10]:=⟨fun x hx=>by simp at hx;omega,World.ownsRow_lit wr.drew #[.int .u32 10] 1 (Nat.le_refl _) (by unfold maxLen;omega) rfl⟩;have bz1:Below w.heap.size w (wr.drew.alloc (.cells #[.int .u32 10] 196)):=Below.alloc (⟨hbl.os,hbl.tape,hbl.output,hbl.size,hbl.block⟩:Below w.heap.size w wr.drew) hs _;have sz1:=bz1.size;have hw8:IntKind.u8.wrap ((D:Int) - 48)=(D:Int) - 48:=by rw [IntKind.wrap_u8];omega
      have hw64:IntKind.u64.wrap ((D:Int) - 48)=(D:Int) - 48:=by rw [IntKind.wrap_u64];omega
      have hD0:0≤(D:Int) - 48∧(D:Int) - 48<10:=by omega
      have hlim2:lim [((D:Int) - 48) % 4294967296,((D:Int) - 48)/4294967296]:=by
       intro x hx;simp at hx;rcases hx with rfl | rfl <;> omega
      have HOF:Hid (can (tr [((D:Int) - 48) % 4294967296,((D:Int) - 48)/4294967296])∧val (tr [((D:Int) - 48) % 4294967296,((D:Int) - 48)/4294967296])=(D:Int) - 48∧(tr [((D:Int) - 48) % 4294967296,((D:Int) - 48)/4294967296]).length≤2):=⟨tr_can hlim2,by rw [val_tr];simp only [val];omega,tr_length_le _⟩;clear hlim2;go_wp2
      go_region_with
       (first
       | (go_at_call 135;refine (refMul_any hz1 (Nat.le_refl _) h10.rd (Nat.le_refl _) (by omega) (by simp)).mono ?_;rintro e w2 ⟨us,cu,vu,lu,a3,c3,rfl,o3,b3⟩)
       | (go_at_call 164;refine (refOf_any ((D:Int) - 48) (by omega) (by omega) _).mono ?_;intro e w3 hm3;generalize tr [((D:Int) - 48) % 4294967296,((D:Int) - 48)/4294967296]=ds at *;obtain ⟨a4,c4,rfl,o4,b4⟩:=hm3)
       | (go_at_call 136;refine (refAdd_any (o3.below b4 (Nat.le_refl _)).rd (Nat.le_refl _) o4.rd (Nat.le_refl _) (by have:[(10:Int)].length=1:=rfl;omega) (by have:=HOF.out;omega)).mono ?_;rintro e w5 ⟨rs,cr,vr,lr,a5,c5,rfl,o5,b5⟩))
      all_goals
       have HR:Hid (digs (l.take (i+1))∧val rs=dval (l.take (i+1))):=⟨HX2.out.1,by rw [vr,vu,HX2.out.2,HOF.out.2.1];rfl⟩;have hrl:rs.length≤3*(i+1):=by
        have e10:[(10:Int)].length=1:=rfl;have:=HOF.out.2.2;omega
       have s2:=b3.size;have s3:=b4.size;have bw5:Below w.heap.size w w5:=bz1.trans ((b3.mono sz1).trans ((b4.mono (by omega)).trans (b5.mono (by omega))));have o5w:Own w.heap.size w5 (.slice a5 rs.length c5) rs:=o5.mono (by omega);clear vr vu lr lu o5 o4 o3 b3 b4 b5 hz1 h10 ozd bz1;go_wp2
       go_roundw
       case rel=>exact ⟨i+1,rs,a5,c5,by omega,by go_num,rfl,cr,HR,hrl,(fun h=>by omega),o5w,bw5⟩
       case measure=>simp [intOf];omega
  · obtain rfl:i=l.length:=by omega
    have hd2:=hdz.out;rw [List.take_length] at hd2;have HD:Hid (digs l∧val zs=dval l):=hd2;clear hd2;by_cases h0:0<l.length
    · have HN:Hid (isNum l):=⟨HD.out.1,h0⟩
      go_wp2
      go_ret2
      exact ⟨hbl,fun _=>⟨zs,a,c,cz,HD.out.2,rfl,oz⟩,fun h=>absurd HN.out h⟩
    · have HN:Hid (¬ isNum l):=fun h=>absurd h.2 h0
      obtain rfl:zs=[]:=List.eq_nil_of_length_eq_zero (by omega);obtain ⟨rfl,rfl⟩:=h00.out (by omega);go_wp2
      go_ret2
      exact ⟨hbl,fun h=>absurd h HN.out,fun _=>rfl⟩
theorem mac_beq (s:ByteArray) (h:isMac s.data.toList=true):2≤s.size∧s.extract 0 2=⟨#[194,175]⟩:=by
 have h1:=(isMac_get s).1 h;refine ⟨by omega,?_⟩;obtain ⟨⟨l⟩⟩:=s
 match l,h with
 | a :: b :: l,h=>
  simp only [isMac,Bool.and_eq_true,beq_iff_eq] at h;have ha:a=194:=UInt8.toNat_inj.1 (by rw [h.1];rfl);have hb:b=175:=UInt8.toNat_inj.1 (by rw [h.2];rfl);subst ha;subst hb;apply ByteArray.ext;rw [ByteArray.data_extract];simp
theorem mac_not (s:ByteArray) (h:isMac s.data.toList=false) (h2:2≤s.size):s.extract 0 2≠⟨#[194,175]⟩:=by
 intro he;obtain ⟨⟨l⟩⟩:=s
 match l,h with
 | [],h=>simp [ByteArray.size] at h2
 | [a],h=>simp [ByteArray.size] at h2
 | a :: b :: l,h=>
  have h3:=congrArg (fun t=>t.data.toList) he;rw [extract_list] at h3;simp at h3;simp [isMac,h3] at h
theorem mac_rest (s:ByteArray):∃ S:ByteArray,Hid (S=if isMac s.data.toList=true then s.extract 2 s.size else s)∧Hid (S.data.toList=s.data.toList.drop (st s.data.toList))∧S.size≤s.size:=by
 by_cases h:isMac s.data.toList=true
 · refine ⟨s.extract 2 s.size,?_,?_,?_⟩
   · unfold Hid;rw [if_pos h]
   · unfold Hid st
     rw [extract_list,if_pos h];apply List.take_of_length_le;have:s.data.toList.length=s.size:=by simp
     rw [List.length_drop,this];omega
   · have h1:(s.extract 2 s.size).size=(s.extract 2 s.size).data.toList.length:=by simp
     rw [h1,extract_list];have:s.data.toList.length=s.size:=by simp
     rw [List.length_take,List.length_drop,this];omega
 · refine ⟨s,?_,?_,Nat.le_refl _⟩
   · unfold Hid;rw [if_neg h]
   · unfold Hid st;rw [if_neg h];rfl
theorem ref_val_ten':val [10]=10:=by decide
theorem cut_none {l:List UInt8} {B:Bool} {S:ByteArray} (hB:B=isMac l) (hS:S.data.toList=l.drop (st l)) (hn:∀ j,j<S.size→¬ isM (S.get! j)):Cuts l B 0 (S.extract 0 S.size).data.toList []:=by
 have hs:S.data.toList.length=S.size:=by simp
 have e:(S.extract 0 S.size).data.toList=S.data.toList:=by
  rw [ext_list,List.drop_zero];exact List.take_of_length_le (by omega)
 refine ⟨hB,Or.inl ⟨rfl,by rw [e,hS],rfl,fun y hy => ?_⟩⟩;rw [ext_list] at hy;obtain ⟨j,j1,j2,j3,rfl⟩:=mem_at hy;exact hn j j3
theorem cut_at {l:List UInt8} {B:Bool} {S:ByteArray} {i:Nat} {m:Int} (hB:B=isMac l) (hS:S.data.toList=l.drop (st l)) (hi:i<S.size) (hm:m=((S.get! i).toNat:Int)) (hM:isM (S.get! i)) (hn:∀ j,j<i→¬ isM (S.get! j)):Cuts l B m (S.extract 0 i).data.toList (S.extract (i+1) S.size).data.toList:=by
 have hs:S.data.toList.length=S.size:=by simp
 refine ⟨hB,Or.inr ⟨S.get! i,hM,hm,?_,fun y hy => ?_⟩⟩
 · have hg:=get_data S i hi
   have hkl:i<S.data.toList.length:=by omega
   rw [List.getElem?_eq_getElem hkl] at hg;rw [← hS,ext_list,ext_list,List.drop_zero,List.take_of_length_le (i:=S.size - (i+1)) (by rw [List.length_drop];omega),← Option.some.inj hg,← List.drop_eq_getElem_cons hkl,Nat.sub_zero,List.take_append_drop]
 · rw [ext_list] at hy
   obtain ⟨j,j1,j2,j3,rfl⟩:=mem_at hy;exact hn j (by omega)
theorem refParse_rat (s:ByteArray) (hs:s.size≤9223372036854775807) (w:World):Calls Tryz.prog 95 #[.string s] w fun e w'=>RParses w s e w':=by
 have hR0:=box3_new w (.bool false) (.slice none 0 0) (.slice none 0 0) 110;have b0:=below_alloc w (.cells #[.bool false,.slice none 0 0,.slice none 0 0] 110);have s0:w.heap.size<(w.alloc (.cells #[.bool false,.slice none 0 0,.slice none 0 0] 110)).heap.size:=by simp
 obtain ⟨wR,hwR⟩:∃ wR,wR=w.alloc (.cells #[.bool false,.slice none 0 0,.slice none 0 0] 110):=⟨_,rfl⟩;have hrs:wR.heap.size=w.heap.size+1:=by rw [hwR];simp
 rw [← hwR] at hR0 b0 s0;go_enter Tryz.func95,Tryz.ntmps95;go_wp2
 go_loopw [4] (fun n wr=>∃ (pos fuel cnt:Nat),wr=wR.iter s pos∧n=.int .i64 cnt∧cnt≤pos∧pos≤s.size∧Hid (cnt+Lib.runeCountFrom s fuel pos=Lib.runeCount s)∧s.size≤pos+fuel) (fun _ wr=>s.size - wr.iterPos wR.heap.size)
 case atStart=>exact ⟨0,s.size,0,(by rw [hwR]),rfl,by omega,by omega,(by unfold Hid;simp [Lib.runeCount]),by omega⟩
 case round=>
  clear hwR;obtain ⟨pos,fuel,cnt,rfl,rfl,hcp,hps,HC,hf⟩:=hrel;by_cases hp:pos<s.size
  · have hnx:∀ ty,(Instr.next (.pointer (some ⟨wR.heap.size,0,none⟩)) true ty).run Tryz.prog (wR.iter s pos)=_:=fun ty=>run_next_any wR s pos ty hp
    simp only [hrs] at hnx;have hwd:=Lib.decode_width_pos s pos hp;have hwe:=dec_end s pos hp;obtain ⟨f,rfl⟩:∃ f,fuel=f+1:=⟨fuel - 1,by omega⟩;have HS:Hid (Lib.runeCountFrom s (f+1) pos=1+Lib.runeCountFrom s f (pos+(Utf8.decode s pos).2)):=by
     unfold Hid;rw [Lib.runeCountFrom,if_pos hp]
    generalize (Utf8.decode s pos).2=n at *;generalize (Utf8.decode s pos).1=C at *;go_wp2
    go_roundw
    case rel=>exact ⟨pos+n,f,cnt+1,rfl,by go_num,by omega,by omega,(by unfold Hid;have:=HC.out;have:=HS.out;omega),by omega⟩
    case measure=>simp only [World.iterPos_iter];omega
  · have hnx:∀ ty,(Instr.next (.pointer (some ⟨wR.heap.size,0,none⟩)) true ty).run Tryz.prog (wR.iter s pos)=_:=fun ty=>run_next_end wR s pos ty hp
    simp only [hrs] at hnx;have hcnt:cnt=Lib.runeCount s:=by have:=HC.out;rw [Lib.runeCountFrom_end s fuel pos hp] at this;omega
    have HB:Below wR.heap.size wR (wR.iter s pos):=below_alloc _ _;have sa:wR.heap.size<(wR.iter s pos).heap.size:=by unfold World.iter;simp
    have hRa:=hR0.below HB s0;have bwa:Below w.heap.size w (wR.iter s pos):=b0.trans (HB.mono (by omega));clear HB HC hcp hR0 b0;have H7:Hid (cnt=Lib.runeCount s):=hcnt;clear hcnt;by_cases h7:700<cnt
    · have q0:=hRa.c0
      have q1:=hRa.c1;have q2:=hRa.c2;have p0:=hRa.f0;have p1:=hRa.f1;have p2:=hRa.f2;go_wp2
      have hR3:=hRa.set (.bool false) (.slice none 0 0) (.slice none 0 0);have r0:=hR3.c0;have r1:=hR3.c1;have r2:=hR3.c2;refine bodyPost_ret (v:=.tuple #[.agg #[.bool false,.slice none 0 0,.slice none 0 0],.int .i64 8]) (by simp [results,Tryz.results95,go_sem,r0,r1,r2]) rfl ?_;exact ⟨Below.set3 bwa (Nat.le_refl _) _ _ _,Or.inl ⟨by rw [← H7.out];exact h7,rfl⟩⟩
    · have HN7:Hid (¬ 700<Lib.runeCount s):=by unfold Hid;rw [← H7.out];exact h7
      have hsz:s.size≤2800:=by
       have:=runeCount_size s s.size 0 (by omega);have h8:=HN7.out;unfold Lib.runeCount at h8;omega
      go_upto_region 7 with fail
      clear hnx;generalize hA:wR.iter s pos=wa at *;clear hA
      go_cut [5] from 22 to 29 (fun q wx=>∃ (B:Bool),q=.bool B∧Hid (B=isMac s.data.toList)∧wx=wa)
      case first=>
       by_cases hm:isMac s.data.toList=true
       · obtain ⟨h2,hE⟩:=mac_beq s hm
         have HM:Hid (true=isMac s.data.toList):=hm.symm;clear hm
         go_wp2_with fail
         go_meet
         exact ⟨true,rfl,HM,rfl⟩
       · have hm':isMac s.data.toList=false:=by simpa using hm
         have HM:Hid (false=isMac s.data.toList):=hm'.symm;by_cases h2:2≤s.size
         · have hE:¬ s.extract 0 2=⟨#[194,175]⟩:=mac_not s hm' h2
           have hEb:((s.extract 0 2).toList==[194,175])=false:=by
            rw [beq_eq_false_iff_ne,ByteArray.toList_eq];exact fun h=>hE (ByteArray.ext (Array.toList_inj.1 h))
           clear hm hm'
           go_wp2_with fail
           go_meet
           exact ⟨false,rfl,HM,rfl⟩
         · clear hm hm'
           go_wp2_with fail
           go_meet
           exact ⟨false,rfl,HM,rfl⟩
      case rest=>
       obtain ⟨B,rfl,HB,rfl⟩:=hcut
       cases B with
       | true=>
        have h2:2≤s.size:=(mac_beq s HB.out.symm).1;obtain ⟨S,HE,HS,hSs⟩:=mac_rest s;have hSE:s.extract 2 s.size=S:=by rw [HE.out,if_pos HB.out.symm]
        clear HE;go_wp2
        clear hSE h2
        go_loopw [6] (fun at' wr=>∃ i:Nat,at'=.int .i64 i∧i≤S.size∧Hid (∀ j,j<i→¬ isM (S.get! j))∧wr=wc) (fun at' _=>S.size - (intOf at').toNat)
        case atStart=>exact ⟨0,rfl,by omega,(fun j hj=>by omega),rfl⟩
        case round=>
         obtain ⟨i,rfl,hi,HN,rfl⟩:=hrel;by_cases hlt:i<S.size
         · have hse:S[i].toNat=(S.get! i).toNat:=by rw [get_is S i hlt]
           have HM:Hid (isM (S.get! i)↔(S.get! i).toNat=46∨(S.get! i).toNat=114):=Iff.rfl;generalize hD:(S.get! i).toNat=D at *;by_cases h46:D=46
           · subst h46
             have HC:Hid (Cuts s.data.toList true 46 (S.extract 0 i).data.toList (S.extract (i+1) S.size).data.toList):=cut_at HB.out HS.out hlt (by rw [hD];rfl) (HM.out.2 (by omega)) HN.out;clear HN HM;have hie:((i:Int)==((S.size:Nat):Int))=false:=by rw [beq_eq_false_iff_ne];omega
             have hSl:S.data.toList.length=S.size:=by simp
             have lH:(S.extract (i+1) S.size).data.toList.length=S.size - (i+1):=by rw [ext_list,List.length_take,List.length_drop];omega
             clear hSl;have i1:i+1≤S.size:=by omega
             have lA:(S.extract 0 i).data.toList.length≤2800:=by rw [ext_list,List.length_take];omega
             go_wp2_with fail
             refine (refParse_any (S.extract 0 i) (S.extract 0 i).data.toList rfl (by omega)).mono ?_;intro e wd hpc;obtain ⟨bd,xs,a1,c1,ok1,rfl,o1,lx,HX⟩:=hpc.form;clear hpc;have sd:=bd.size;have hRd:=hRa.below bd (by omega);have bwd:Below w.heap.size w wd:=bwa.trans (bd.mono (by omega));clear hRa bwa
             cases ok1 with
             | false=>
              have HNA:Hid (¬ isNum (S.extract 0 i).data.toList):=fun h=>by have:=HX.out.1.2 h;cases this
              have q0:=hRd.c0;have q1:=hRd.c1;have q2:=hRd.c2;have p0:=hRd.f0;have p1:=hRd.f1;have p2:=hRd.f2;go_wp2
              have hR3:=hRd.set (.bool false) (.slice none 0 0) (.slice none 0 0);have r0:=hR3.c0;have r1:=hR3.c1;have r2:=hR3.c2;refine bodyPost_ret (v:=.tuple #[.agg #[.bool false,.slice none 0 0,.slice none 0 0],.int .i64 22]) (by simp [results,Tryz.results95,go_sem,r0,r1,r2]) rfl ?_;exact ⟨Below.set3 bwd (Nat.le_refl _) _ _ _,Or.inr ⟨HN7.out,true,46,_,_,HC.out,Or.inl ⟨Or.inl HNA.out,rfl⟩⟩⟩
             | true=>
              have HA:Hid (isNum (S.extract 0 i).data.toList∧can xs∧val xs=(dval (S.extract 0 i).data.toList:Int)):=⟨HX.out.1.1 rfl,HX.out.2 rfl⟩;clear HX
              go_wp2_with fail
              refine (refParse_any (S.extract (i+1) S.size) (S.extract (i+1) S.size).data.toList rfl (by omega)).mono ?_;intro e we hpd;obtain ⟨be,ys,a2,c2,ok2,rfl,o2,ly,HY⟩:=hpd.form;clear hpd;have se:=be.size;have hRe:=hRd.below be (by omega);have bwe:Below w.heap.size w we:=bwd.trans (be.mono (by omega));have o1e:=o1.below be (Nat.le_refl _);clear o1 hRd bwd
              cases ok2 with
              | false=>
               have HNH:Hid (¬ isNum (S.extract (i+1) S.size).data.toList):=fun h=>by have:=HY.out.1.2 h;cases this
               have q0:=hRe.c0;have q1:=hRe.c1;have q2:=hRe.c2;have p0:=hRe.f0;have p1:=hRe.f1;have p2:=hRe.f2;go_wp2
               have hR3:=hRe.set (.bool false) (.slice none 0 0) (.slice none 0 0);have r0:=hR3.c0;have r1:=hR3.c1;have r2:=hR3.c2;refine bodyPost_ret (v:=.tuple #[.agg #[.bool false,.slice none 0 0,.slice none 0 0],.int .i64 22]) (by simp [results,Tryz.results95,go_sem,r0,r1,r2]) rfl ?_;exact ⟨Below.set3 bwe (Nat.le_refl _) _ _ _,Or.inr ⟨HN7.out,true,46,_,_,HC.out,Or.inl ⟨Or.inr ⟨by decide,HNH.out⟩,rfl⟩⟩⟩
              | true=>
               have HH:Hid (isNum (S.extract (i+1) S.size).data.toList∧can ys∧val ys=(dval (S.extract (i+1) S.size).data.toList:Int)):=⟨HY.out.1.1 rfl,HY.out.2 rfl⟩;clear HY
               go_wp2_with fail
               refine (refOne_any _).mono ?_;rintro e wf ⟨os,a3,c3,HO,rfl,o3,bf⟩;have sf:=bf.size;have lo:os.length≤1:=by rw [HO.out];decide
               have HO1:Hid (can os∧val os=((10 ^ 0:Nat):Int)):=by unfold Hid;rw [HO.out];exact ⟨can_one,by decide⟩
               clear HO;go_wp2
               go_loopw [11,12] (fun dv iv wr=>∃ (k:Nat) (zs:List Int) (a:Option Addr) (c:Nat),iv=.int .i64 ((i+1+k:Nat):Int)∧i+1+k≤S.size∧dv=.slice a zs.length c∧can zs∧Hid (val zs=((10 ^ k:Nat):Int))∧zs.length≤k+1∧Own we.heap.size wr (.slice a zs.length c) zs∧Below we.heap.size we wr) (fun _ iv _=>S.size - (intOf iv).toNat)
               case atStart=>exact ⟨0,os,a3,c3,by go_num,by omega,rfl,HO1.out.1,HO1.out.2,lo,o3,bf⟩
               case round=>
                clear bf o3 HO1 lo sf;obtain ⟨k,zs,a,c,rfl,hk,rfl,cz,HZ,lz,oz,bz⟩:=hrel;have sz:=bz.size;by_cases hlt2:i+1+k<S.size
                · have hz1:=(oz.alloc (.cells #[.int .u32 10] 196)).rd
                  have h10:Own wr.heap.size (wr.alloc (.cells #[.int .u32 10] 196)) (.slice (some ⟨wr.heap.size,0,none⟩) 1 1) [10]:=⟨fun x hx=>by simp at hx;omega,World.ownsRow_lit wr #[.int .u32 10] 1 (Nat.le_refl _) (by unfold maxLen;omega) rfl⟩;have bz1:Below we.heap.size we (wr.alloc (.cells #[.int .u32 10] 196)):=Below.alloc bz sz _;have sz1:=bz1.size
                  go_wp2_with fail
                  refine (refMul_any hz1 (Nat.le_refl _) h10.rd (Nat.le_refl _) (by omega) (by simp)).mono ?_;rintro e w2 ⟨us,cu,vu,lu,a5,c5,rfl,o5,b5⟩;have HU:Hid (val us=((10 ^ (k+1):Nat):Int)):=by unfold Hid;rw [vu,HZ.out,ref_val_ten',Nat.pow_succ,Int.natCast_mul];rfl
                  have lu2:us.length≤k+1+1:=by
                   have h5:us.length≤k+1:=by rw [can_len_pw cu,HU.out];exact ten_lt (k+1) (by omega)
                   omega
                  have b5w:Below we.heap.size we w2:=bz1.trans (b5.mono sz1);have o5w:Own we.heap.size w2 (.slice a5 us.length c5) us:=o5.mono sz1;clear vu lu o5 b5 h10 hz1 bz1;go_wp2
                  go_roundw
                  case rel=>exact ⟨k+1,us,a5,c5,by go_num,by omega,rfl,cu,HU,lu2,o5w,b5w⟩
                  case measure=>simp [intOf];omega
                · have hke:k=S.size - (i+1):=by omega
                  have HKL:Hid ((S.extract (i+1) S.size).data.toList.length=k):=by unfold Hid;rw [lH,hke]
                  have hRz:=hRe.below bz (by omega);have bwz:Below w.heap.size w wr:=bwe.trans (bz.mono (by omega));have o1z:=o1e.below bz (Nat.le_refl _);have o2z:=o2.below bz (Nat.le_refl _);clear hke
                  go_wp2_with fail
                  refine (refMul_any o1z.rd (Nat.le_refl _) oz.rd (Nat.le_refl _) (by omega) (by omega)).mono ?_;rintro e wg ⟨us,cu,vu,lu,a5,c5,rfl,o5,bg⟩;have sg1:=bg.size
                  go_wp2_with fail
                  refine (refAdd_any o5.rd (Nat.le_refl _) (o2z.below bg (Nat.le_refl _)).rd (Nat.le_refl _) (by omega) (by omega)).mono ?_;rintro e wh ⟨ts,ct,vt,lt',a6,c6,rfl,o6,bh⟩;have sh:=bh.size;have hRh:=(hRz.below bg (by omega)).below bh (by omega);have bwh:Below w.heap.size w wh:=(bwz.trans (bg.mono (by omega))).trans (bh.mono (by omega));have ozh:=(oz.below bg (Nat.le_refl _)).below bh (Nat.le_refl _);have HT:Hid (val ts=((dval (S.extract 0 i).data.toList*10 ^ (S.extract (i+1) S.size).data.toList.length+dval (S.extract (i+1) S.size).data.toList:Nat):Int)):=by
                   unfold Hid;rw [vt,vu,HZ.out,HA.out.2.2,HH.out.2.2,HKL.out,Int.natCast_add,Int.natCast_mul]
                  have HZ2:Hid (val zs=((10 ^ (S.extract (i+1) S.size).data.toList.length:Nat):Int)):=by unfold Hid;rw [HZ.out,HKL.out]
                  have hzp:0<val zs:=by rw [HZ.out];exact Int.natCast_pos.2 (Nat.pow_pos (by decide))
                  clear vt vu
                  go_wp2_with fail
                  refine (refMake_rat (b:=true) o6.rd ozh.rd (by omega) (by omega) hzp).mono ?_;intro e wi hm6;clear hzp;obtain ⟨bm6,b6,x5,n5,y5,x6,n6,y6,er,rfl,hform⟩:=hm6.form;clear hm6;rw [HT.out,HZ2.out] at hform;have hRm:=hRh.below bm6 (by omega);have q0:=hRm.c0;have q1:=hRm.c1;have q2:=hRm.c2;have p0:=hRm.f0;have p1:=hRm.f1;have p2:=hRm.f2;go_wp2
                  have hR3:=hRm.set (.bool b6) (.slice x5 n5 y5) (.slice x6 n6 y6);have r0:=hR3.c0;have r1:=hR3.c1;have r2:=hR3.c2;refine bodyPost_ret (v:=.tuple #[.agg #[.bool b6,.slice x5 n5 y5,.slice x6 n6 y6],.int .i64 er]) (by simp [results,Tryz.results95,go_sem,r0,r1,r2]) rfl ?_;have hfin:=rform_done bwh (Nat.le_refl _) (by omega) bm6 hform;exact ⟨hfin.1,Or.inr ⟨HN7.out,true,46,_,_,HC.out,Or.inr (Or.inr (Or.inr (Or.inr ⟨HA.out.1,HH.out.1,rfl,hfin⟩)))⟩⟩
           · by_cases h114:D=114
             · subst h114
               have HC:Hid (Cuts s.data.toList true 114 (S.extract 0 i).data.toList (S.extract (i+1) S.size).data.toList):=cut_at HB.out HS.out hlt (by rw [hD];rfl) (HM.out.2 (by omega)) HN.out;clear HN HM;have hie:((i:Int)==((S.size:Nat):Int))=false:=by rw [beq_eq_false_iff_ne];omega
               have hSl:S.data.toList.length=S.size:=by simp
               have lH:(S.extract (i+1) S.size).data.toList.length=S.size - (i+1):=by rw [ext_list,List.length_take,List.length_drop];omega
               clear hSl;have i1:i+1≤S.size:=by omega
               have lA:(S.extract 0 i).data.toList.length≤2800:=by rw [ext_list,List.length_take];omega
               go_wp2_with fail
               refine (refParse_any (S.extract 0 i) (S.extract 0 i).data.toList rfl (by omega)).mono ?_;intro e wd hpc;obtain ⟨bd,xs,a1,c1,ok1,rfl,o1,lx,HX⟩:=hpc.form;clear hpc;have sd:=bd.size;have hRd:=hRa.below bd (by omega);have bwd:Below w.heap.size w wd:=bwa.trans (bd.mono (by omega));clear hRa bwa
               cases ok1 with
               | false=>
                have HNA:Hid (¬ isNum (S.extract 0 i).data.toList):=fun h=>by have:=HX.out.1.2 h;cases this
                have q0:=hRd.c0;have q1:=hRd.c1;have q2:=hRd.c2;have p0:=hRd.f0;have p1:=hRd.f1;have p2:=hRd.f2;go_wp2
                have hR3:=hRd.set (.bool false) (.slice none 0 0) (.slice none 0 0);have r0:=hR3.c0;have r1:=hR3.c1;have r2:=hR3.c2;refine bodyPost_ret (v:=.tuple #[.agg #[.bool false,.slice none 0 0,.slice none 0 0],.int .i64 22]) (by simp [results,Tryz.results95,go_sem,r0,r1,r2]) rfl ?_;exact ⟨Below.set3 bwd (Nat.le_refl _) _ _ _,Or.inr ⟨HN7.out,true,114,_,_,HC.out,Or.inl ⟨Or.inl HNA.out,rfl⟩⟩⟩
               | true=>
                have HA:Hid (isNum (S.extract 0 i).data.toList∧can xs∧val xs=(dval (S.extract 0 i).data.toList:Int)):=⟨HX.out.1.1 rfl,HX.out.2 rfl⟩;clear HX
                go_wp2_with fail
                refine (refParse_any (S.extract (i+1) S.size) (S.extract (i+1) S.size).data.toList rfl (by omega)).mono ?_;intro e we hpd;obtain ⟨be,ys,a2,c2,ok2,rfl,o2,ly,HY⟩:=hpd.form;clear hpd;have se:=be.size;have hRe:=hRd.below be (by omega);have bwe:Below w.heap.size w we:=bwd.trans (be.mono (by omega));have o1e:=o1.below be (Nat.le_refl _);clear o1 hRd bwd
                cases ok2 with
                | false=>
                 have HNH:Hid (¬ isNum (S.extract (i+1) S.size).data.toList):=fun h=>by have:=HY.out.1.2 h;cases this
                 have q0:=hRe.c0;have q1:=hRe.c1;have q2:=hRe.c2;have p0:=hRe.f0;have p1:=hRe.f1;have p2:=hRe.f2;go_wp2
                 have hR3:=hRe.set (.bool false) (.slice none 0 0) (.slice none 0 0);have r0:=hR3.c0;have r1:=hR3.c1;have r2:=hR3.c2;refine bodyPost_ret (v:=.tuple #[.agg #[.bool false,.slice none 0 0,.slice none 0 0],.int .i64 22]) (by simp [results,Tryz.results95,go_sem,r0,r1,r2]) rfl ?_;exact ⟨Below.set3 bwe (Nat.le_refl _) _ _ _,Or.inr ⟨HN7.out,true,114,_,_,HC.out,Or.inl ⟨Or.inr ⟨by decide,HNH.out⟩,rfl⟩⟩⟩
                | true=>
                 have HH:Hid (isNum (S.extract (i+1) S.size).data.toList∧can ys∧val ys=(dval (S.extract (i+1) S.size).data.toList:Int)):=⟨HY.out.1.1 rfl,HY.out.2 rfl⟩;clear HY;by_cases hz:0<ys.length
                 · have hyp:=pos_len HH.out.2.1 (by omega)
                   have HZ:Hid (0<dval (S.extract (i+1) S.size).data.toList):=by unfold Hid;have:=HH.out.2.2;omega
                   have hyb:((ys.length:Int)==0)=false:=by rw [beq_eq_false_iff_ne];omega
                   go_wp2_with fail
                   refine (refMake_rat (b:=true) o1e.rd o2.rd (by omega) (by omega) hyp).mono ?_;intro e wf hm6;obtain ⟨bm6,b6,x5,n5,y5,x6,n6,y6,er,rfl,hform⟩:=hm6.form;clear hm6;rw [HA.out.2.2,HH.out.2.2] at hform;clear hyp;have hRm:=hRe.below bm6 (by omega);have q0:=hRm.c0;have q1:=hRm.c1;have q2:=hRm.c2;have p0:=hRm.f0;have p1:=hRm.f1;have p2:=hRm.f2;go_wp2
                   have hR3:=hRm.set (.bool b6) (.slice x5 n5 y5) (.slice x6 n6 y6);have r0:=hR3.c0;have r1:=hR3.c1;have r2:=hR3.c2;refine bodyPost_ret (v:=.tuple #[.agg #[.bool b6,.slice x5 n5 y5,.slice x6 n6 y6],.int .i64 er]) (by simp [results,Tryz.results95,go_sem,r0,r1,r2]) rfl ?_;have hfin:=rform_done bwe (Nat.le_refl _) (by omega) bm6 hform;exact ⟨hfin.1,Or.inr ⟨HN7.out,true,114,_,_,HC.out,Or.inr (Or.inr (Or.inr (Or.inl ⟨HA.out.1,HH.out.1,rfl,HZ.out,hfin⟩)))⟩⟩
                 · have HZ:Hid (dval (S.extract (i+1) S.size).data.toList=0):=by unfold Hid;have h5:=(can_zero HH.out.2.1).1 (by omega);have:=HH.out.2.2;omega
                   have hyb:((ys.length:Int)==0)=true:=by rw [beq_iff_eq];omega
                   have q0:=hRe.c0;have q1:=hRe.c1;have q2:=hRe.c2;have p0:=hRe.f0;have p1:=hRe.f1;have p2:=hRe.f2;go_wp2
                   have hR3:=hRe.set (.bool false) (.slice none 0 0) (.slice none 0 0);have r0:=hR3.c0;have r1:=hR3.c1;have r2:=hR3.c2;refine bodyPost_ret (v:=.tuple #[.agg #[.bool false,.slice none 0 0,.slice none 0 0],.int .i64 22]) (by simp [results,Tryz.results95,go_sem,r0,r1,r2]) rfl ?_;exact ⟨Below.set3 bwe (Nat.le_refl _) _ _ _,Or.inr ⟨HN7.out,true,114,_,_,HC.out,Or.inr (Or.inr (Or.inl ⟨HA.out.1,HH.out.1,rfl,HZ.out,rfl⟩))⟩⟩
             · have e46:((D:Int) != 46)=true:=by rw [bne_iff_ne];omega
               have e114:((D:Int) != 114)=true:=by rw [bne_iff_ne];omega
               clear hD;go_wp2
               go_roundw
               case rel=>
                refine ⟨i+1,by go_num,by omega,?_,by first | trivial | rfl⟩
                intro j hj;by_cases hji:j=i
                · subst hji;exact fun h=>by have:=HM.out.1 h;omega
                · exact HN.out j (by omega)
               case measure=>simp [intOf];omega
         · have HC:Hid (Cuts s.data.toList true 0 (S.extract 0 i).data.toList []):=by
            have hi':i=S.size:=by omega
            subst hi';exact cut_none HB.out HS.out HN.out
           clear HN;have hie:((i:Int)==((S.size:Nat):Int))=true:=by rw [beq_iff_eq];omega
           have lA:(S.extract 0 i).data.toList.length≤2800:=by rw [ext_list,List.length_take];omega
           go_wp2_with fail
           refine (refParse_any (S.extract 0 i) (S.extract 0 i).data.toList rfl (by omega)).mono ?_;intro e wd hpc;obtain ⟨bd,xs,a1,c1,ok1,rfl,o1,lx,HX⟩:=hpc.form;clear hpc;have sd:=bd.size;have hRd:=hRa.below bd (by omega);have bwd:Below w.heap.size w wd:=bwa.trans (bd.mono (by omega));clear hRa bwa
           cases ok1 with
           | false=>
            have HNA:Hid (¬ isNum (S.extract 0 i).data.toList):=fun h=>by have:=HX.out.1.2 h;cases this
            have q0:=hRd.c0;have q1:=hRd.c1;have q2:=hRd.c2;have p0:=hRd.f0;have p1:=hRd.f1;have p2:=hRd.f2;go_wp2
            have hR3:=hRd.set (.bool false) (.slice none 0 0) (.slice none 0 0);have r0:=hR3.c0;have r1:=hR3.c1;have r2:=hR3.c2;refine bodyPost_ret (v:=.tuple #[.agg #[.bool false,.slice none 0 0,.slice none 0 0],.int .i64 22]) (by simp [results,Tryz.results95,go_sem,r0,r1,r2]) rfl ?_;exact ⟨Below.set3 bwd (Nat.le_refl _) _ _ _,Or.inr ⟨HN7.out,true,0,_,_,HC.out,Or.inl ⟨Or.inl HNA.out,rfl⟩⟩⟩
           | true=>
            have HA:Hid (isNum (S.extract 0 i).data.toList∧can xs∧val xs=(dval (S.extract 0 i).data.toList:Int)):=⟨HX.out.1.1 rfl,HX.out.2 rfl⟩;clear HX
            go_wp2_with fail
            refine (refOne_any _).mono ?_;rintro e we ⟨os,a3,c3,HO,rfl,o3,bf⟩;have sf:=bf.size;have hRe:=hRd.below bf (by omega);have bwe:Below w.heap.size w we:=bwd.trans (bf.mono (by omega));have lo:os.length≤1:=by rw [HO.out];decide
            have HO1:Hid (val os=1):=by unfold Hid;rw [HO.out];decide
            clear HO
            go_wp2_with fail
            refine (refMake_rat (b:=true) (o1.below bf (Nat.le_refl _)).rd o3.rd (by omega) (by omega) (by rw [HO1.out];decide)).mono ?_;intro e wf hm6;obtain ⟨bm6,b6,x5,n5,y5,x6,n6,y6,er,rfl,hform⟩:=hm6.form;clear hm6;rw [HA.out.2.2,HO1.out] at hform;have hRm:=hRe.below bm6 (by omega);have q0:=hRm.c0;have q1:=hRm.c1;have q2:=hRm.c2;have p0:=hRm.f0;have p1:=hRm.f1;have p2:=hRm.f2;go_wp2
            have hR3:=hRm.set (.bool b6) (.slice x5 n5 y5) (.slice x6 n6 y6);have r0:=hR3.c0;have r1:=hR3.c1;have r2:=hR3.c2;refine bodyPost_ret (v:=.tuple #[.agg #[.bool b6,.slice x5 n5 y5,.slice x6 n6 y6],.int .i64 er]) (by simp [results,Tryz.results95,go_sem,r0,r1,r2]) rfl ?_;have hfin:=rform_done bwe (Nat.le_refl _) (by omega) bm6 hform;exact ⟨hfin.1,Or.inr ⟨HN7.out,true,0,_,_,HC.out,Or.inr (Or.inl ⟨HA.out.1,rfl,hfin⟩)⟩⟩
       | false=>
        have HS:Hid (s.data.toList=s.data.toList.drop (st s.data.toList)):=by unfold Hid st;rw [if_neg (by rw [← HB.out];decide)];rfl
        have hSs:s.size≤2800:=hsz;go_wp2
        go_loopw [6] (fun at' wr=>∃ i:Nat,at'=.int .i64 i∧i≤s.size∧Hid (∀ j,j<i→¬ isM (s.get! j))∧wr=wc) (fun at' _=>s.size - (intOf at').toNat)
        case atStart=>exact ⟨0,rfl,by omega,(fun j hj=>by omega),rfl⟩
        case round=>
         obtain ⟨i,rfl,hi,HN,rfl⟩:=hrel;by_cases hlt:i<s.size
         · have hse:s[i].toNat=(s.get! i).toNat:=by rw [get_is s i hlt]
           have HM:Hid (isM (s.get! i)↔(s.get! i).toNat=46∨(s.get! i).toNat=114):=Iff.rfl;generalize hD:(s.get! i).toNat=D at *;by_cases h46:D=46
           · subst h46
             have HC:Hid (Cuts s.data.toList false 46 (s.extract 0 i).data.toList (s.extract (i+1) s.size).data.toList):=cut_at HB.out HS.out hlt (by rw [hD];rfl) (HM.out.2 (by omega)) HN.out;clear HN HM;have hie:((i:Int)==((s.size:Nat):Int))=false:=by rw [beq_eq_false_iff_ne];omega
             have hSl:s.data.toList.length=s.size:=by simp
             have lH:(s.extract (i+1) s.size).data.toList.length=s.size - (i+1):=by rw [ext_list,List.length_take,List.length_drop];omega
             clear hSl;have i1:i+1≤s.size:=by omega
             have lA:(s.extract 0 i).data.toList.length≤2800:=by rw [ext_list,List.length_take];omega
             go_wp2_with fail
             refine (refParse_any (s.extract 0 i) (s.extract 0 i).data.toList rfl (by omega)).mono ?_;intro e wd hpc;obtain ⟨bd,xs,a1,c1,ok1,rfl,o1,lx,HX⟩:=hpc.form;clear hpc;have sd:=bd.size;have hRd:=hRa.below bd (by omega);have bwd:Below w.heap.size w wd:=bwa.trans (bd.mono (by omega));clear hRa bwa
             cases ok1 with
             | false=>
              have HNA:Hid (¬ isNum (s.extract 0 i).data.toList):=fun h=>by have:=HX.out.1.2 h;cases this
              have q0:=hRd.c0;have q1:=hRd.c1;have q2:=hRd.c2;have p0:=hRd.f0;have p1:=hRd.f1;have p2:=hRd.f2;go_wp2
              have hR3:=hRd.set (.bool false) (.slice none 0 0) (.slice none 0 0);have r0:=hR3.c0;have r1:=hR3.c1;have r2:=hR3.c2;refine bodyPost_ret (v:=.tuple #[.agg #[.bool false,.slice none 0 0,.slice none 0 0],.int .i64 22]) (by simp [results,Tryz.results95,go_sem,r0,r1,r2]) rfl ?_;exact ⟨Below.set3 bwd (Nat.le_refl _) _ _ _,Or.inr ⟨HN7.out,false,46,_,_,HC.out,Or.inl ⟨Or.inl HNA.out,rfl⟩⟩⟩
             | true=>
              have HA:Hid (isNum (s.extract 0 i).data.toList∧can xs∧val xs=(dval (s.extract 0 i).data.toList:Int)):=⟨HX.out.1.1 rfl,HX.out.2 rfl⟩;clear HX
              go_wp2_with fail
              refine (refParse_any (s.extract (i+1) s.size) (s.extract (i+1) s.size).data.toList rfl (by omega)).mono ?_;intro e we hpd;obtain ⟨be,ys,a2,c2,ok2,rfl,o2,ly,HY⟩:=hpd.form;clear hpd;have se:=be.size;have hRe:=hRd.below be (by omega);have bwe:Below w.heap.size w we:=bwd.trans (be.mono (by omega));have o1e:=o1.below be (Nat.le_refl _);clear o1 hRd bwd
              cases ok2 with
              | false=>
               have HNH:Hid (¬ isNum (s.extract (i+1) s.size).data.toList):=fun h=>by have:=HY.out.1.2 h;cases this
               have q0:=hRe.c0;have q1:=hRe.c1;have q2:=hRe.c2;have p0:=hRe.f0;have p1:=hRe.f1;have p2:=hRe.f2;go_wp2
               have hR3:=hRe.set (.bool false) (.slice none 0 0) (.slice none 0 0);have r0:=hR3.c0;have r1:=hR3.c1;have r2:=hR3.c2;refine bodyPost_ret (v:=.tuple #[.agg #[.bool false,.slice none 0 0,.slice none 0 0],.int .i64 22]) (by simp [results,Tryz.results95,go_sem,r0,r1,r2]) rfl ?_;exact ⟨Below.set3 bwe (Nat.le_refl _) _ _ _,Or.inr ⟨HN7.out,false,46,_,_,HC.out,Or.inl ⟨Or.inr ⟨by decide,HNH.out⟩,rfl⟩⟩⟩
              | true=>
               have HH:Hid (isNum (s.extract (i+1) s.size).data.toList∧can ys∧val ys=(dval (s.extract (i+1) s.size).data.toList:Int)):=⟨HY.out.1.1 rfl,HY.out.2 rfl⟩;clear HY
               go_wp2_with fail
               refine (refOne_any _).mono ?_;rintro e wf ⟨os,a3,c3,HO,rfl,o3,bf⟩;have sf:=bf.size;have lo:os.length≤1:=by rw [HO.out];decide
               have HO1:Hid (can os∧val os=((10 ^ 0:Nat):Int)):=by unfold Hid;rw [HO.out];exact ⟨can_one,by decide⟩
               clear HO;go_wp2
               go_loopw [11,12] (fun dv iv wr=>∃ (k:Nat) (zs:List Int) (a:Option Addr) (c:Nat),iv=.int .i64 ((i+1+k:Nat):Int)∧i+1+k≤s.size∧dv=.slice a zs.length c∧can zs∧Hid (val zs=((10 ^ k:Nat):Int))∧zs.length≤k+1∧Own we.heap.size wr (.slice a zs.length c) zs∧Below we.heap.size we wr) (fun _ iv _=>s.size - (intOf iv).toNat)
               case atStart=>exact ⟨0,os,a3,c3,by go_num,by omega,rfl,HO1.out.1,HO1.out.2,lo,o3,bf⟩
               case round=>
                clear bf o3 HO1 lo sf;obtain ⟨k,zs,a,c,rfl,hk,rfl,cz,HZ,lz,oz,bz⟩:=hrel;have sz:=bz.size;by_cases hlt2:i+1+k<s.size
                · have hz1:=(oz.alloc (.cells #[.int .u32 10] 196)).rd
                  have h10:Own wr.heap.size (wr.alloc (.cells #[.int .u32 10] 196)) (.slice (some ⟨wr.heap.size,0,none⟩) 1 1) [10]:=⟨fun x hx=>by simp at hx;omega,World.ownsRow_lit wr #[.int .u32 10] 1 (Nat.le_refl _) (by unfold maxLen;omega) rfl⟩;have bz1:Below we.heap.size we (wr.alloc (.cells #[.int .u32 10] 196)):=Below.alloc bz sz _;have sz1:=bz1.size
                  go_wp2_with fail
                  refine (refMul_any hz1 (Nat.le_refl _) h10.rd (Nat.le_refl _) (by omega) (by simp)).mono ?_;rintro e w2 ⟨us,cu,vu,lu,a5,c5,rfl,o5,b5⟩;have HU:Hid (val us=((10 ^ (k+1):Nat):Int)):=by unfold Hid;rw [vu,HZ.out,ref_val_ten',Nat.pow_succ,Int.natCast_mul];rfl
                  have lu2:us.length≤k+1+1:=by
                   have h5:us.length≤k+1:=by rw [can_len_pw cu,HU.out];exact ten_lt (k+1) (by omega)
                   omega
                  have b5w:Below we.heap.size we w2:=bz1.trans (b5.mono sz1);have o5w:Own we.heap.size w2 (.slice a5 us.length c5) us:=o5.mono sz1;clear vu lu o5 b5 h10 hz1 bz1;go_wp2
                  go_roundw
                  case rel=>exact ⟨k+1,us,a5,c5,by go_num,by omega,rfl,cu,HU,lu2,o5w,b5w⟩
                  case measure=>simp [intOf];omega
                · have hke:k=s.size - (i+1):=by omega
                  have HKL:Hid ((s.extract (i+1) s.size).data.toList.length=k):=by unfold Hid;rw [lH,hke]
                  have hRz:=hRe.below bz (by omega);have bwz:Below w.heap.size w wr:=bwe.trans (bz.mono (by omega));have o1z:=o1e.below bz (Nat.le_refl _);have o2z:=o2.below bz (Nat.le_refl _);clear hke
                  go_wp2_with fail
                  refine (refMul_any o1z.rd (Nat.le_refl _) oz.rd (Nat.le_refl _) (by omega) (by omega)).mono ?_;rintro e wg ⟨us,cu,vu,lu,a5,c5,rfl,o5,bg⟩;have sg1:=bg.size
                  go_wp2_with fail
                  refine (refAdd_any o5.rd (Nat.le_refl _) (o2z.below bg (Nat.le_refl _)).rd (Nat.le_refl _) (by omega) (by omega)).mono ?_;rintro e wh ⟨ts,ct,vt,lt',a6,c6,rfl,o6,bh⟩;have sh:=bh.size;have hRh:=(hRz.below bg (by omega)).below bh (by omega);have bwh:Below w.heap.size w wh:=(bwz.trans (bg.mono (by omega))).trans (bh.mono (by omega));have ozh:=(oz.below bg (Nat.le_refl _)).below bh (Nat.le_refl _);have HT:Hid (val ts=((dval (s.extract 0 i).data.toList*10 ^ (s.extract (i+1) s.size).data.toList.length+dval (s.extract (i+1) s.size).data.toList:Nat):Int)):=by
                   unfold Hid;rw [vt,vu,HZ.out,HA.out.2.2,HH.out.2.2,HKL.out,Int.natCast_add,Int.natCast_mul]
                  have HZ2:Hid (val zs=((10 ^ (s.extract (i+1) s.size).data.toList.length:Nat):Int)):=by unfold Hid;rw [HZ.out,HKL.out]
                  have hzp:0<val zs:=by rw [HZ.out];exact Int.natCast_pos.2 (Nat.pow_pos (by decide))
                  clear vt vu
                  go_wp2_with fail
                  refine (refMake_rat (b:=false) o6.rd ozh.rd (by omega) (by omega) hzp).mono ?_;intro e wi hm6;clear hzp;obtain ⟨bm6,b6,x5,n5,y5,x6,n6,y6,er,rfl,hform⟩:=hm6.form;clear hm6;rw [HT.out,HZ2.out] at hform;have hRm:=hRh.below bm6 (by omega);have q0:=hRm.c0;have q1:=hRm.c1;have q2:=hRm.c2;have p0:=hRm.f0;have p1:=hRm.f1;have p2:=hRm.f2;go_wp2
                  have hR3:=hRm.set (.bool b6) (.slice x5 n5 y5) (.slice x6 n6 y6);have r0:=hR3.c0;have r1:=hR3.c1;have r2:=hR3.c2;refine bodyPost_ret (v:=.tuple #[.agg #[.bool b6,.slice x5 n5 y5,.slice x6 n6 y6],.int .i64 er]) (by simp [results,Tryz.results95,go_sem,r0,r1,r2]) rfl ?_;have hfin:=rform_done bwh (Nat.le_refl _) (by omega) bm6 hform;exact ⟨hfin.1,Or.inr ⟨HN7.out,false,46,_,_,HC.out,Or.inr (Or.inr (Or.inr (Or.inr ⟨HA.out.1,HH.out.1,rfl,hfin⟩)))⟩⟩
           · by_cases h114:D=114
             · subst h114
               have HC:Hid (Cuts s.data.toList false 114 (s.extract 0 i).data.toList (s.extract (i+1) s.size).data.toList):=cut_at HB.out HS.out hlt (by rw [hD];rfl) (HM.out.2 (by omega)) HN.out;clear HN HM;have hie:((i:Int)==((s.size:Nat):Int))=false:=by rw [beq_eq_false_iff_ne];omega
               have hSl:s.data.toList.length=s.size:=by simp
               have lH:(s.extract (i+1) s.size).data.toList.length=s.size - (i+1):=by rw [ext_list,List.length_take,List.length_drop];omega
               clear hSl;have i1:i+1≤s.size:=by omega
               have lA:(s.extract 0 i).data.toList.length≤2800:=by rw [ext_list,List.length_take];omega
               go_wp2_with fail
               refine (refParse_any (s.extract 0 i) (s.extract 0 i).data.toList rfl (by omega)).mono ?_;intro e wd hpc;obtain ⟨bd,xs,a1,c1,ok1,rfl,o1,lx,HX⟩:=hpc.form;clear hpc;have sd:=bd.size;have hRd:=hRa.below bd (by omega);have bwd:Below w.heap.size w wd:=bwa.trans (bd.mono (by omega));clear hRa bwa
               cases ok1 with
               | false=>
                have HNA:Hid (¬ isNum (s.extract 0 i).data.toList):=fun h=>by have:=HX.out.1.2 h;cases this
                have q0:=hRd.c0;have q1:=hRd.c1;have q2:=hRd.c2;have p0:=hRd.f0;have p1:=hRd.f1;have p2:=hRd.f2;go_wp2
                have hR3:=hRd.set (.bool false) (.slice none 0 0) (.slice none 0 0);have r0:=hR3.c0;have r1:=hR3.c1;have r2:=hR3.c2;refine bodyPost_ret (v:=.tuple #[.agg #[.bool false,.slice none 0 0,.slice none 0 0],.int .i64 22]) (by simp [results,Tryz.results95,go_sem,r0,r1,r2]) rfl ?_;exact ⟨Below.set3 bwd (Nat.le_refl _) _ _ _,Or.inr ⟨HN7.out,false,114,_,_,HC.out,Or.inl ⟨Or.inl HNA.out,rfl⟩⟩⟩
               | true=>
                have HA:Hid (isNum (s.extract 0 i).data.toList∧can xs∧val xs=(dval (s.extract 0 i).data.toList:Int)):=⟨HX.out.1.1 rfl,HX.out.2 rfl⟩;clear HX
                go_wp2_with fail
                refine (refParse_any (s.extract (i+1) s.size) (s.extract (i+1) s.size).data.toList rfl (by omega)).mono ?_;intro e we hpd;obtain ⟨be,ys,a2,c2,ok2,rfl,o2,ly,HY⟩:=hpd.form;clear hpd;have se:=be.size;have hRe:=hRd.below be (by omega);have bwe:Below w.heap.size w we:=bwd.trans (be.mono (by omega));have o1e:=o1.below be (Nat.le_refl _);clear o1 hRd bwd
                cases ok2 with
                | false=>
                 have HNH:Hid (¬ isNum (s.extract (i+1) s.size).data.toList):=fun h=>by have:=HY.out.1.2 h;cases this
                 have q0:=hRe.c0;have q1:=hRe.c1;have q2:=hRe.c2;have p0:=hRe.f0;have p1:=hRe.f1;have p2:=hRe.f2;go_wp2
                 have hR3:=hRe.set (.bool false) (.slice none 0 0) (.slice none 0 0);have r0:=hR3.c0;have r1:=hR3.c1;have r2:=hR3.c2;refine bodyPost_ret (v:=.tuple #[.agg #[.bool false,.slice none 0 0,.slice none 0 0],.int .i64 22]) (by simp [results,Tryz.results95,go_sem,r0,r1,r2]) rfl ?_;exact ⟨Below.set3 bwe (Nat.le_refl _) _ _ _,Or.inr ⟨HN7.out,false,114,_,_,HC.out,Or.inl ⟨Or.inr ⟨by decide,HNH.out⟩,rfl⟩⟩⟩
                | true=>
                 have HH:Hid (isNum (s.extract (i+1) s.size).data.toList∧can ys∧val ys=(dval (s.extract (i+1) s.size).data.toList:Int)):=⟨HY.out.1.1 rfl,HY.out.2 rfl⟩;clear HY;by_cases hz:0<ys.length
                 · have hyp:=pos_len HH.out.2.1 (by omega)
                   have HZ:Hid (0<dval (s.extract (i+1) s.size).data.toList):=by unfold Hid;have:=HH.out.2.2;omega
                   have hyb:((ys.length:Int)==0)=false:=by rw [beq_eq_false_iff_ne];omega
                   go_wp2_with fail
                   refine (refMake_rat (b:=false) o1e.rd o2.rd (by omega) (by omega) hyp).mono ?_;intro e wf hm6;obtain ⟨bm6,b6,x5,n5,y5,x6,n6,y6,er,rfl,hform⟩:=hm6.form;clear hm6;rw [HA.out.2.2,HH.out.2.2] at hform;clear hyp;have hRm:=hRe.below bm6 (by omega);have q0:=hRm.c0;have q1:=hRm.c1;have q2:=hRm.c2;have p0:=hRm.f0;have p1:=hRm.f1;have p2:=hRm.f2;go_wp2
                   have hR3:=hRm.set (.bool b6) (.slice x5 n5 y5) (.slice x6 n6 y6);have r0:=hR3.c0;have r1:=hR3.c1;have r2:=hR3.c2;refine bodyPost_ret (v:=.tuple #[.agg #[.bool b6,.slice x5 n5 y5,.slice x6 n6 y6],.int .i64 er]) (by simp [results,Tryz.results95,go_sem,r0,r1,r2]) rfl ?_;have hfin:=rform_done bwe (Nat.le_refl _) (by omega) bm6 hform;exact ⟨hfin.1,Or.inr ⟨HN7.out,false,114,_,_,HC.out,Or.inr (Or.inr (Or.inr (Or.inl ⟨HA.out.1,HH.out.1,rfl,HZ.out,hfin⟩)))⟩⟩
                 · have HZ:Hid (dval (s.extract (i+1) s.size).data.toList=0):=by unfold Hid;have h5:=(can_zero HH.out.2.1).1 (by omega);have:=HH.out.2.2;omega
                   have hyb:((ys.length:Int)==0)=true:=by rw [beq_iff_eq];omega
                   have q0:=hRe.c0;have q1:=hRe.c1;have q2:=hRe.c2;have p0:=hRe.f0;have p1:=hRe.f1;have p2:=hRe.f2;go_wp2
                   have hR3:=hRe.set (.bool false) (.slice none 0 0) (.slice none 0 0);have r0:=hR3.c0;have r1:=hR3.c1;have r2:=hR3.c2;refine bodyPost_ret (v:=.tuple #[.agg #[.bool false,.slice none 0 0,.slice none 0 0],.int .i64 22]) (by simp [results,Tryz.results95,go_sem,r0,r1,r2]) rfl ?_;exact ⟨Below.set3 bwe (Nat.le_refl _) _ _ _,Or.inr ⟨HN7.out,false,114,_,_,HC.out,Or.inr (Or.inr (Or.inl ⟨HA.out.1,HH.out.1,rfl,HZ.out,rfl⟩))⟩⟩
             · have e46:((D:Int) != 46)=true:=by rw [bne_iff_ne];omega
               have e114:((D:Int) != 114)=true:=by rw [bne_iff_ne];omega
               clear hD;go_wp2
               go_roundw
               case rel=>
                refine ⟨i+1,by go_num,by omega,?_,by first | trivial | rfl⟩
                intro j hj;by_cases hji:j=i
                · subst hji;exact fun h=>by have:=HM.out.1 h;omega
                · exact HN.out j (by omega)
               case measure=>simp [intOf];omega
         · have HC:Hid (Cuts s.data.toList false 0 (s.extract 0 i).data.toList []):=by
            have hi':i=s.size:=by omega
            subst hi';exact cut_none HB.out HS.out HN.out
           clear HN;have hie:((i:Int)==((s.size:Nat):Int))=true:=by rw [beq_iff_eq];omega
           have lA:(s.extract 0 i).data.toList.length≤2800:=by rw [ext_list,List.length_take];omega
           go_wp2_with fail
           refine (refParse_any (s.extract 0 i) (s.extract 0 i).data.toList rfl (by omega)).mono ?_;intro e wd hpc;obtain ⟨bd,xs,a1,c1,ok1,rfl,o1,lx,HX⟩:=hpc.form;clear hpc;have sd:=bd.size;have hRd:=hRa.below bd (by omega);have bwd:Below w.heap.size w wd:=bwa.trans (bd.mono (by omega));clear hRa bwa
           cases ok1 with
           | false=>
            have HNA:Hid (¬ isNum (s.extract 0 i).data.toList):=fun h=>by have:=HX.out.1.2 h;cases this
            have q0:=hRd.c0;have q1:=hRd.c1;have q2:=hRd.c2;have p0:=hRd.f0;have p1:=hRd.f1;have p2:=hRd.f2;go_wp2
            have hR3:=hRd.set (.bool false) (.slice none 0 0) (.slice none 0 0);have r0:=hR3.c0;have r1:=hR3.c1;have r2:=hR3.c2;refine bodyPost_ret (v:=.tuple #[.agg #[.bool false,.slice none 0 0,.slice none 0 0],.int .i64 22]) (by simp [results,Tryz.results95,go_sem,r0,r1,r2]) rfl ?_;exact ⟨Below.set3 bwd (Nat.le_refl _) _ _ _,Or.inr ⟨HN7.out,false,0,_,_,HC.out,Or.inl ⟨Or.inl HNA.out,rfl⟩⟩⟩
           | true=>
            have HA:Hid (isNum (s.extract 0 i).data.toList∧can xs∧val xs=(dval (s.extract 0 i).data.toList:Int)):=⟨HX.out.1.1 rfl,HX.out.2 rfl⟩;clear HX
            go_wp2_with fail
            refine (refOne_any _).mono ?_;rintro e we ⟨os,a3,c3,HO,rfl,o3,bf⟩;have sf:=bf.size;have hRe:=hRd.below bf (by omega);have bwe:Below w.heap.size w we:=bwd.trans (bf.mono (by omega));have lo:os.length≤1:=by rw [HO.out];decide
            have HO1:Hid (val os=1):=by unfold Hid;rw [HO.out];decide
            clear HO
            go_wp2_with fail
            refine (refMake_rat (b:=false) (o1.below bf (Nat.le_refl _)).rd o3.rd (by omega) (by omega) (by rw [HO1.out];decide)).mono ?_;intro e wf hm6;obtain ⟨bm6,b6,x5,n5,y5,x6,n6,y6,er,rfl,hform⟩:=hm6.form;clear hm6;rw [HA.out.2.2,HO1.out] at hform;have hRm:=hRe.below bm6 (by omega);have q0:=hRm.c0;have q1:=hRm.c1;have q2:=hRm.c2;have p0:=hRm.f0;have p1:=hRm.f1;have p2:=hRm.f2;go_wp2
            have hR3:=hRm.set (.bool b6) (.slice x5 n5 y5) (.slice x6 n6 y6);have r0:=hR3.c0;have r1:=hR3.c1;have r2:=hR3.c2;refine bodyPost_ret (v:=.tuple #[.agg #[.bool b6,.slice x5 n5 y5,.slice x6 n6 y6],.int .i64 er]) (by simp [results,Tryz.results95,go_sem,r0,r1,r2]) rfl ?_;have hfin:=rform_done bwe (Nat.le_refl _) (by omega) bm6 hform;exact ⟨hfin.1,Or.inr ⟨HN7.out,false,0,_,_,HC.out,Or.inr (Or.inl ⟨HA.out.1,rfl,hfin⟩)⟩⟩
theorem refSigns_any (w:World):Calls Tryz.prog 102 #[] w fun e w'=>e=.returned (.string sgns)∧w'=w:=by
 go_enter Tryz.func102,Tryz.ntmps102;go_wp2
 go_ret
 exact ⟨rfl,rfl⟩
theorem refIsDigit_any (c:Int) (w:World):Calls Tryz.prog 94 #[.int .i32 c] w fun e w'=>e=.returned (.bool (dg c))∧w'=w:=by
 go_enter Tryz.func94,Tryz.ntmps94;have hcs:c<48∨(48≤c∧c≤57)∨57<c:=by omega
 rcases hcs with h1 | ⟨h1,h2⟩ | h1
 · have HV:Hid (dg c=false):=by unfold Hid dg;simp;omega
   have h3:¬ 48≤c:=by omega
   go_wp2
   go_ret
   exact ⟨by rw [HV.out];rfl,rfl⟩
 · have HV:Hid (dg c=true):=by unfold Hid dg;simp;omega
   go_wp2
   go_ret
   exact ⟨by rw [HV.out];rfl,rfl⟩
 · have HV:Hid (dg c=false):=by unfold Hid dg;simp;omega
   have h3:48≤c:=by omega
   have h4:¬ c≤57:=by omega
   go_wp2
   go_ret
   exact ⟨by rw [HV.out];rfl,rfl⟩
theorem refIsLetter_any (c:Int) (w:World):Calls Tryz.prog 99 #[.int .i32 c] w fun e w'=>e=.returned (.bool (bn c))∧w'=w:=by
 go_enter Tryz.func99,Tryz.ntmps99;have hcs:(65≤c∧c≤90)∨(97≤c∧c≤122)∨c=95∨c=8710∨(¬ (65≤c∧c≤90)∧¬ (97≤c∧c≤122)∧¬ c=95∧¬ c=8710):=by omega
 rcases hcs with ⟨h1,h2⟩ | ⟨h1,h2⟩ | rfl | rfl | ⟨h1,h2,h3,h4⟩
 · have HV:Hid (bn c=true):=by unfold Hid bn lt;simp;omega
   go_wp2
   go_ret
   exact ⟨by rw [HV.out];rfl,rfl⟩
 · have HV:Hid (bn c=true):=by unfold Hid bn lt;simp;omega
   have h3:65≤c:=by omega
   have h4:¬ c≤90:=by omega
   go_wp2
   go_ret
   exact ⟨by rw [HV.out];rfl,rfl⟩
 · go_wp2
   go_ret
   exact ⟨rfl,rfl⟩
 · go_wp2
   go_ret
   exact ⟨rfl,rfl⟩
 · have HV:Hid (bn c=false):=by unfold Hid bn lt;simp;omega
   have e3:(c==95)=false:=by rw [beq_eq_false_iff_ne];exact h3
   have e4:(c==8710)=false:=by rw [beq_eq_false_iff_ne];exact h4
   clear h3 h4;by_cases k1:65≤c
   · have k2:¬ c≤90:=by omega
     by_cases k3:97≤c
     · have k4:¬ c≤122:=by omega
       clear h1 h2;go_wp2
       go_ret
       exact ⟨by rw [HV.out];rfl,rfl⟩
     · clear h1 h2
       go_wp2
       go_ret
       exact ⟨by rw [HV.out];rfl,rfl⟩
   · have k3:¬ 97≤c:=by omega
     clear h1 h2;go_wp2
     go_ret
     exact ⟨by rw [HV.out];rfl,rfl⟩
theorem makeSpec_len {N D:Int} {e:Int} (h:MakeSpec N D b ns ds e):ns.length≤32∧ds.length≤32:=by
 rcases h with ⟨_,_,_,rfl,rfl⟩ | ⟨_,_,_,rfl,rfl,_⟩ | ⟨_,_,hr,_⟩
 · exact ⟨by simp,by simp⟩
 · exact ⟨by simp,by simp⟩
 · exact ⟨hr.1,hr.2.1⟩
theorem textSpec_len {T:ByteArray} {e:Int} (h:TextSpec T b ns ds e):ns.length≤32∧ds.length≤32:=by
 rcases h with ⟨_,_,_,rfl,rfl⟩ | ⟨_,B,m,A,H,_,h⟩
 · exact ⟨by simp,by simp⟩
 · rcases h with ⟨_,_,_,rfl,rfl⟩ | ⟨_,_,h⟩ | ⟨_,_,_,h⟩ | ⟨_,_,_,h⟩
   · exact ⟨by simp,by simp⟩
   · exact makeSpec_len h
   · exact makeSpec_len h
   · exact makeSpec_len h
theorem conv_own {base:Nat} {a:Option Addr} {c:Nat} {acc:List Int} (h:OwnR base w (.slice a acc.length c) acc):(convert 116 9 (.slice a acc.length c)).run Tryz.prog w=.ok (.string (runesBytes acc)) w:=by
 by_cases h0:acc.length=0
 · obtain rfl:acc=[]:=List.eq_nil_of_length_eq_zero h0
   rw [show ([]:List Int).length=0 from rfl,run_convert_runes_string w _ _ _ a 0 c Tryz.underlying116 Tryz.underlying21 Tryz.underlying9]
   cases a <;> (simp [Conv.runesToString,go_sem] <;> rfl)
 · obtain ⟨g,cap,hv,hg,hk,hcap,hc⟩:=h.rd (by omega)
   rw [hv];have:=run_convert_runes (P:=Tryz.prog) w 116 9 21 ⟨g,0,none⟩ acc.length cap acc (Nat.le_refl _) Tryz.underlying116 Tryz.underlying21 Tryz.underlying9 (fun j hj=>by
    have e:((⟨g,0,none⟩:Addr).add j)=⟨g,0+j,none⟩:=by simp [Addr.add];omega
    rw [e];exact hc j hj)
   rw [List.take_length] at this;exact this
def TwoIs (w:World) (e:Ending) (w':World):Prop:=∃ a1 n1 c1 a2 n2 c2,e=.returned (.agg #[.slice a1 n1 c1,.slice a2 n2 c2])∧Below w.heap.size w w'
theorem refChar_any (c:Int) (w:World):Calls Tryz.prog 98 #[.int .i32 c] w fun e w'=>∃ k,e=.returned (.agg #[.slice none 0 0,.slice (some ⟨k,0,none⟩) 1 1])∧BoxA w' k 113 #[.int .u8 2,.bool false,.slice none 0 0,.slice none 0 0,.int .i32 c,.slice none 0 0]∧w.heap.size≤k∧Below w.heap.size w w':=by
 have z1:=below_alloc w (.cells #[.slice none 0 0,.slice (some ⟨w.heap.size+1,0,none⟩) 1 1] 29);have z2:=below_alloc (w.alloc (.cells #[.slice none 0 0,.slice (some ⟨w.heap.size+1,0,none⟩) 1 1] 29)) (.cells #[.int .u8 2,.bool false,.slice none 0 0,.slice none 0 0,.int .i32 c,.slice none 0 0] 113);have R:=(boxA_new w #[.slice none 0 0,.slice (some ⟨w.heap.size+1,0,none⟩) 1 1] 29).below z2 (by simp);have I:=boxA_new (w.alloc (.cells #[.slice none 0 0,.slice (some ⟨w.heap.size+1,0,none⟩) 1 1] 29)) #[.int .u8 2,.bool false,.slice none 0 0,.slice none 0 0,.int .i32 c,.slice none 0 0] 113;rw [World.size_alloc] at I;have r0:=R.cell 0 rfl;have r1:=R.cell 1 rfl;go_enter Tryz.func98,Tryz.ntmps98;go_wp2
 refine bodyPost_ret (v:=.agg #[.slice none 0 0,.slice (some ⟨w.heap.size+1,0,none⟩) 1 1]) (by simp [results,Tryz.results98,go_sem,r0,r1]) rfl ?_;exact ⟨w.heap.size+1,rfl,I,Nat.le_succ _,z1.trans (z2.mono z1.size)⟩
theorem refNum_any {a1 a2:Option Addr} {c1 c2:Nat} (h1:Rd w.heap.size w (.slice a1 ns.length c1) ns) (h2:Rd w.heap.size w (.slice a2 ds.length c2) ds) (l1:ns.length*4≤140737488355328) (l2:ds.length*4≤140737488355328) :
    Calls Tryz.prog 96 #[.agg #[.bool b,.slice a1 ns.length c1,.slice a2 ds.length c2]] w fun e w'=>TwoIs w e w':=by
 have z1:=below_alloc w (.cells #[.bool b,.slice a1 ns.length c1,.slice a2 ds.length c2] 110);have z2:=below_alloc (w.alloc (.cells #[.bool b,.slice a1 ns.length c1,.slice a2 ds.length c2] 110)) (.cells #[.slice none 0 0,.slice none 0 0] 29);have z:Below w.heap.size w _:=z1.trans (z2.mono z1.size);have R:=boxA_new (w.alloc (.cells #[.bool b,.slice a1 ns.length c1,.slice a2 ds.length c2] 110)) #[.slice none 0 0,.slice none 0 0] 29;rw [World.size_alloc] at R;have X:=(boxA_new w #[.bool b,.slice a1 ns.length c1,.slice a2 ds.length c2] 110).below z2 (by simp);have H1:=(h1.below z).mono z.size;have H2:=(h2.below z).mono z.size;have sv:((w.alloc (.cells #[.bool b,.slice a1 ns.length c1,.slice a2 ds.length c2] 110)).alloc (.cells #[.slice none 0 0,.slice none 0 0] 29)).heap.size=w.heap.size+1+1:=by simp
 clear z1 z2;have x0:=X.cell 0 rfl;have x1:=X.cell 1 rfl;have x2:=X.cell 2 rfl;go_enter Tryz.func96,Tryz.ntmps96
 go_wp2_with fail
 clear x0 x1 x2 X;generalize hA:(w.alloc (.cells #[.bool b,.slice a1 ns.length c1,.slice a2 ds.length c2] 110)).alloc (.cells #[.slice none 0 0,.slice none 0 0] 29)=v at *;clear hA;refine (refCopy_any H1 H2 l1 l2).mono ?_;rintro e w1 ⟨k1,p1,q1,p2,q2,rfl,o1,o2⟩;have s1:=k1.size;have R1:=R.below k1 (by omega);have k2:=below_alloc w1 (.cells #[.int .u8 1,.bool b,.slice p1 ns.length q1,.slice p2 ds.length q2,.int .i32 0,.slice none 0 0] 113);have R2:=R1.below k2 (by omega);have f0:=R2.frozen 0;have f1:=R2.frozen 1;have g0:=R2.cell 0 rfl;have g1:=R2.cell 1 rfl;have R3:=R2.set2 (.slice none 0 0) (.slice (some ⟨w1.heap.size,0,none⟩) 1 1);have y0:=R3.cell 0 rfl;have y1:=R3.cell 1 rfl;go_wp2
 refine bodyPost_ret (v:=.agg #[.slice none 0 0,.slice (some ⟨w1.heap.size,0,none⟩) 1 1]) (by simp [results,Tryz.results96,go_sem,y0,y1]) rfl ?_;exact ⟨_,_,_,_,_,_,rfl,Below.set2 ((z.trans (k1.mono (by omega))).trans (k2.mono (by omega))) (Nat.le_succ _) _ _⟩
theorem refText_any (s:ByteArray) (w:World) (hs:s.size≤9223372036854775807):Calls Tryz.prog 97 #[.string s] w fun e w'=>TwoIs w e w':=by
 obtain ⟨i0,hi,hz0,hz1,hz2⟩:=info_parts info_item;have z1:=below_alloc w (.cells #[.slice none 0 0,.slice none 0 0] 29);have R:=boxA_new w #[.slice none 0 0,.slice none 0 0] 29;go_enter Tryz.func97,Tryz.ntmps97;go_wp2
 generalize hA:w.alloc (.cells #[.slice none 0 0,.slice none 0 0] 29)=v at *;have sv:v.heap.size=w.heap.size+1:=by rw [← hA];simp
 clear hA
 go_loopw [3] (fun ov wr=>∃ (pos n:Nat) (a:Option Addr) (c:Nat) (xs:List Value),ov=.slice a n c∧wr.ownsRow (w.heap.size+1+1) 113 6 (.slice a n c) n xs∧wr.heap[w.heap.size+1]? = some (.stringIter s pos)∧n≤4096∧pos≤s.size∧Below (w.heap.size+1) v wr) (fun _ wr=>s.size - wr.iterPos (w.heap.size+1))
 case atStart=>
  refine ⟨0,0,none,0,[],rfl,World.ownsRow_nil _ _ _ _,?_,by omega,by omega,?_⟩
  · have:=World.iter_heap v s 0
    rw [sv] at this;exact this
  · rw [← sv];exact below_alloc _ _
 case round=>
  obtain ⟨pos,n,a,c,xs,rfl,hO,hit,hn,hps,hb⟩:=hrel;have hsz:w.heap.size+1<wr.heap.size:=(Array.getElem?_eq_some_iff.1 hit).1;by_cases hp:pos<s.size
  · have hnx:∀ ty,(Instr.next (.pointer (some ⟨w.heap.size+1,0,none⟩)) true ty).run Tryz.prog wr=_:=fun ty=>Lib.run_next_any_at wr (w.heap.size+1) s pos ty hit hp
    have hwd:=Lib.decode_width_pos s pos hp;have hwe:=dec_end s pos hp;have hit2:=Lib.iterAt_heap wr (w.heap.size+1) s pos (pos+(Utf8.decode s pos).2) hit;have hb2:=Lib.below_iterAt hb (k:=w.heap.size+1) (Nat.le_refl _) s (pos+(Utf8.decode s pos).2);have hO2:(wr.iterAt (w.heap.size+1) s (pos+(Utf8.decode s pos).2)).ownsRow (w.heap.size+1+1) 113 6 (.slice a n c) n xs:=ownsRow_iterAt hO (by omega) s _;have HQ:Hid (wr.iterPos (w.heap.size+1)=pos):=by unfold Hid;simp only [World.iterPos,hit]
    generalize (Utf8.decode s pos).2=m at *;generalize (Utf8.decode s pos).1=C at *;generalize wr.iterAt (w.heap.size+1) s (pos+m)=W2 at *;have hsz2:w.heap.size+1<W2.heap.size:=(Array.getElem?_eq_some_iff.1 hit2).1;clear hit hb hO;by_cases hlt:n<4096
    · have hd:((n:Int))<4096:=by omega
      go_wp2_with (at_builtin;refine wpList_append_own _ rfl _ _ 27 rfl (w.heap.size+1+1) 113 i0 (.agg #[.int .u8 0,.bool false,.slice none 0 0,.slice none 0 0,.int .i32 0,.slice none 0 0]) 6 96 Tryz.underlying27 hi hz0 hz1 hz2 rfl (by decide) _ _ _ rfl (hO2.alloc _) ⟨_,0,none⟩ 1 1 (chCells C) rfl rfl ?c1 ?c2 ?c3 ?c4 ?c5 ?_)
      case c1=>
       intro j u hj;have NX:=boxA_new W2 #[.int .u8 2,.bool false,.slice none 0 0,.slice none 0 0,.int .i32 C,.slice none 0 0] 113
       match j,hj with
       | 0,hj=>simp [chCells] at hj;subst hj;exact NX.cell 0 rfl
       | 1,hj=>simp [chCells] at hj;subst hj;exact NX.cell 1 rfl
       | 2,hj=>simp [chCells] at hj;subst hj;exact NX.cell 2 rfl
       | 3,hj=>simp [chCells] at hj;subst hj;exact NX.cell 3 rfl
       | 4,hj=>simp [chCells] at hj;subst hj;exact NX.cell 4 rfl
       | 5,hj=>simp [chCells] at hj;subst hj;exact NX.cell 5 rfl
       | j+6,hj=>simp [chCells] at hj
      case c2=>
       intro u hu;simp only [chCells,List.mem_cons,List.not_mem_nil,or_false] at hu;rcases hu with rfl | rfl | rfl | rfl | rfl | rfl <;> rfl
      case c3=>unfold maxLen;omega
      case c4=>omega
      case c5=>simp;omega
      intro v' w1 hown' hgrow _;obtain ⟨g',cap',rfl⟩:=row_form hown';have hrow:∀ k,(Value.slice a n c).ownBlock=some k→w.heap.size+1+1≤k:=fun k hk=>(hO2.lt k hk).1;have hit3:w1.heap[w.heap.size+1]? = some (.stringIter s (pos+m)):=by
       rw [hgrow.block (w.heap.size+1) (by simp;omega) (fun e=>by have:=hrow _ e.symm;omega),Below.heap_alloc _ _ _ hsz2];exact hit2
      have hb3:Below (w.heap.size+1) v w1:=(hb2.alloc (by omega) _).grown hgrow (by simp;omega) (fun k hk=>by have:=hrow k hk;omega);clear hgrow hO2 hit2 hb2 hrow;go_wp2
      go_roundw
      case rel=>exact ⟨pos+m,n+1,some ⟨g',0,none⟩,cap',_,rfl,hown',hit3,by omega,by omega,hb3⟩
      case measure=>
       rw [HQ.out];simp only [World.iterPos,hit3];omega
    · have hd:¬ ((n:Int))<4096:=by omega
      go_wp2
      go_roundw
      case rel=>exact ⟨pos+m,n,a,c,xs,rfl,hO2,hit2,by omega,by omega,hb2⟩
      case measure=>
       rw [HQ.out];simp only [World.iterPos,hit2];omega
  · have hnx:∀ ty,(Instr.next (.pointer (some ⟨w.heap.size+1,0,none⟩)) true ty).run Tryz.prog wr=_:=fun ty=>Lib.run_next_end_at wr (w.heap.size+1) s pos ty hit hp
    have R1:=R.below hb (by omega);have gW:Below w.heap.size w wr:=z1.trans (hb.mono (by omega));by_cases h0:n=0
    · have e0:((n:Int)==0)=true:=by rw [beq_iff_eq];omega
      clear h0
      go_wp2_with fail
      refine (refChar_any 32 _).mono ?_;rintro e w1 ⟨k,rfl,_,_,k1⟩;have s1:=k1.size;have R1:=R1.below k1 (by omega);have gW1:=gW.trans (k1.mono (by omega));have hfl:∀ W:World,(Instr.field 29 (.agg #[.slice none 0 0,.slice (some ⟨k,0,none⟩) 1 1]) 1).run Tryz.prog W=.ok (.slice (some ⟨k,0,none⟩) 1 1) W:=fun W=>by kernel_rfl
      have k2:=below_alloc w1 (.cells #[.int .i64 n] 3);have R2:=R1.below k2 (by omega);have f0:=R2.frozen 0;have f1:=R2.frozen 1;have g0:=R2.cell 0 rfl;have g1:=R2.cell 1 rfl;have R3:=R2.set2 (.slice (some ⟨w1.heap.size,0,none⟩) 1 1) (.slice (some ⟨k,0,none⟩) 1 1);have y0:=R3.cell 0 rfl;have y1:=R3.cell 1 rfl;go_wp2
      refine bodyPost_ret (v:=.agg #[.slice (some ⟨w1.heap.size,0,none⟩) 1 1,.slice (some ⟨k,0,none⟩) 1 1]) (by simp [results,Tryz.results97,go_sem,y0,y1]) rfl ?_;exact ⟨_,_,_,_,_,_,rfl,Below.set2 (gW1.trans (k2.mono (by omega))) (Nat.le_refl _) _ _⟩
    · have e0:((n:Int)==0)=false:=by rw [beq_eq_false_iff_ne];omega
      have k2:=below_alloc wr (.cells #[.int .i64 n] 3);have R2:=R1.below k2 (by omega);have f0:=R2.frozen 0;have f1:=R2.frozen 1;have g0:=R2.cell 0 rfl;have g1:=R2.cell 1 rfl;have R3:=R2.set2 (.slice (some ⟨wr.heap.size,0,none⟩) 1 1) (.slice a n c);have y0:=R3.cell 0 rfl;have y1:=R3.cell 1 rfl;go_wp2
      refine bodyPost_ret (v:=.agg #[.slice (some ⟨wr.heap.size,0,none⟩) 1 1,.slice a n c]) (by simp [results,Tryz.results97,go_sem,y0,y1]) rfl ?_;exact ⟨_,_,_,_,_,_,rfl,Below.set2 (gW.trans (k2.mono (by omega))) (Nat.le_refl _) _ _⟩
end
end Go.Proofs.YtimfnalpmmkndaaGreatDoor
