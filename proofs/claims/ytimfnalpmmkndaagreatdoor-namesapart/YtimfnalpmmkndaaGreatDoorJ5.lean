/- Plain facts on texts: where a mark stands, what a macron is, byte by byte and character by character. -/
import Derived.Lib.RuneCount
import Derived.Laws.RangeAny
import Derived.Test.YtimfnalpmmkndaaGreatDoorJ3
import Derived.Lib.OthersKept
import Derived.Test.YtimfnalpmmkndaaGreatDoorJ1
import Derived.Test.YtimfnalpmmkndaaGreatDoorJ4
import Derived.Test.YtimfnalpmmkndaaGreatDoorJ2
set_option linter.unusedVariables false
set_option linter.unusedSimpArgs false
namespace Go.Proofs.YtimfnalpmmkndaaGreatDoor
variable {l:List UInt8}
section
theorem get_is (s:ByteArray) (p:Nat) (h:p<s.size):s.get! p=s[p]'h:=by
 simp [ByteArray.get!,getElem!_pos,h];rfl
theorem get_data (s:ByteArray) (p:Nat) (h:p<s.size):s.data.toList[p]? = some (s.get! p):=by
 rw [get_is s p h];have h':p<s.data.toList.length:=by simpa using h
 rw [List.getElem?_eq_getElem h'];rfl
theorem dec_cont (s:ByteArray) (pos j:Nat) (h1:pos<j) (h2:j<pos+(Utf8.decode s pos).2):j<s.size∧128≤(s.get! j).toNat:=by
 simp only [Utf8.decode] at h2
 split at h2
 · simp at h2;omega
 split at h2
 · rename_i h3
   simp only [Bool.and_eq_true,decide_eq_true_eq,beq_iff_eq] at h3
   split at h2
   · simp at h2
     obtain rfl:j=pos+1:=by omega
     exact ⟨h3.2.1,by omega⟩
   · simp at h2;omega
 split at h2
 · rename_i h3
   simp only [Bool.and_eq_true,decide_eq_true_eq,beq_iff_eq] at h3
   split at h2
   · simp at h2
     have:j=pos+1∨j=pos+2:=by omega
     rcases this with rfl | rfl
     · exact ⟨h3.1.2.1,by omega⟩
     · exact ⟨h3.2.1,by omega⟩
   · simp at h2;omega
 split at h2
 · rename_i h3
   simp only [Bool.and_eq_true,decide_eq_true_eq,beq_iff_eq] at h3
   split at h2
   · simp at h2
     have:j=pos+1∨j=pos+2∨j=pos+3:=by omega
     rcases this with rfl | rfl | rfl
     · exact ⟨h3.1.1.2.1,by omega⟩
     · exact ⟨h3.1.2.1,by omega⟩
     · exact ⟨h3.2.1,by omega⟩
   · simp at h2;omega
 · simp at h2;omega
def isMac (l:List UInt8):Bool:=match l with | a :: b :: _=>a.toNat==194 && b.toNat==175 | _=>false
theorem isMac_get (s:ByteArray):isMac s.data.toList=true↔1<s.size∧(s.get! 0).toNat=194∧(s.get! 1).toNat=175:=by
 have hs:s.size=s.data.toList.length:=by simp
 constructor
 · intro h
   cases hl:s.data.toList with
   | nil=>rw [hl] at h;cases h
   | cons a l=>
    cases l with
    | nil=>rw [hl] at h;cases h
    | cons b l=>
     rw [hl] at h hs;have hs1:1<s.size:=by rw [hs];simp
     have g0:=get_data s 0 (by omega);have g1:=get_data s 1 hs1;rw [hl] at g0 g1;simp at g0 g1;simp [isMac] at h;rw [← g0,← g1];exact ⟨hs1,h⟩
 · rintro ⟨h1,h2,h3⟩
   have g0:=get_data s 0 (by omega);have g1:=get_data s 1 h1
   cases hl:s.data.toList with
   | nil=>rw [hl] at hs;simp only [List.length_nil] at hs;omega
   | cons a l=>
    cases l with
    | nil=>rw [hl] at hs;simp only [List.length_cons,List.length_nil] at hs;omega
    | cons b l=>
     rw [hl] at g0 g1;simp at g0 g1;simp [isMac];rw [g0,g1];exact ⟨h2,h3⟩
def isM (b:UInt8):Prop:=b.toNat=46∨b.toNat=114
def st (l:List UInt8):Nat:=if isMac l=true then 2 else 0
def Cuts (l:List UInt8) (B:Bool) (m:Int) (A H:List UInt8):Prop:=
 B=isMac l∧((m=0∧A=l.drop (st l)∧H=[]∧∀ y∈A,¬ isM y)∨∃ x,isM x∧m=(x.toNat:Int)∧l.drop (st l)=A++x :: H∧∀ y∈A,¬ isM y)
theorem dec_end (s:ByteArray) (pos:Nat) (h:pos<s.size):pos+(Utf8.decode s pos).2≤s.size:=by
 have hw:=Lib.decode_width_pos s pos h;by_cases h1:(Utf8.decode s pos).2=1
 · omega
 · have:=(dec_cont s pos (pos+(Utf8.decode s pos).2 - 1) (by omega) (by omega)).1
   omega
theorem ext_list (s:ByteArray) (a b:Nat):(s.extract a b).data.toList=(s.data.toList.drop a).take (b - a):=by
 rw [ByteArray.data_extract,Array.toList_extract]
theorem mem_at {s:ByteArray} {y:UInt8} {a n:Nat} (h:y∈(s.data.toList.drop a).take n):∃ j,a≤j∧j<a+n∧j<s.size∧s.get! j=y:=by
 obtain ⟨i,hi,rfl⟩:=List.mem_iff_getElem.1 h;have hl:i<n∧a+i<s.data.toList.length:=by simp at hi;simp;omega
 have hs:s.size=s.data.toList.length:=by simp
 refine ⟨a+i,by omega,by omega,by omega,?_⟩;have h1:=get_data s (a+i) (by omega);rw [List.getElem_take,List.getElem_drop];rw [List.getElem?_eq_getElem hl.2] at h1;exact (Option.some.inj h1).symm
theorem cuts_unique {A H A' H':List UInt8} {B:Bool} {m:Int} {x:UInt8} (h:Cuts l B m A H) (hx:isM x) (e:l.drop (st l)=A'++x :: H') (hn:∀ y∈A',¬ isM y):m=(x.toNat:Int)∧A=A'∧H=H':=by
 have key:∀ (A A' H H':List UInt8) (x y:UInt8),isM x→isM y→(∀ z∈A,¬ isM z)→(∀ z∈A',¬ isM z)→A++x :: H=A'++y :: H'→x=y∧A=A'∧H=H':=by
  intro A
  induction A with
  | nil=>
   intro A' H H' x y hx hy _ h2 e
   cases A' with
   | nil=>simp at e;exact ⟨e.1,rfl,e.2⟩
   | cons a A'=>
    simp at e;exact absurd (e.1 ▸ hx) (h2 a (by simp))
  | cons a A ih=>
   intro A' H H' x y hx hy h1 h2 e
   cases A' with
   | nil=>
    simp at e;exact absurd (e.1 ▸ hy) (h1 a (by simp))
   | cons b A'=>
    simp at e;obtain ⟨e1,e2,e3⟩:=ih A' H H' x y hx hy (fun z hz=>h1 z (by simp [hz])) (fun z hz=>h2 z (by simp [hz])) e.2;exact ⟨e1,by rw [e.1,e2],e3⟩
 obtain ⟨_,⟨_,hA,_,hm⟩ | ⟨y,hy,rfl,e',hm⟩⟩:=h
 · rw [e] at hA
   exact absurd hx (hm x (by rw [hA];simp))
 · obtain ⟨rfl,rfl,rfl⟩:=key _ _ _ _ _ _ hy hx hm hn (e'.symm.trans e)
   exact ⟨rfl,rfl,rfl⟩
end
section
open Go.RowKit
section
variable {w:World} {B ty:Nat} {x y z u:Value}
end
theorem dval_lt (h:digs l):dval l<10 ^ l.length:=by
 induction l with
 | nil=>decide
 | cons b l ih=>
  have hb:=h b (by simp);have h2:=ih (fun c hc=>h c (by simp [hc]));have e:dval (b :: l)=(b.toNat - 48)*10 ^ l.length+dval l:=by
   show (b :: l).foldl _ 0=_;rw [List.foldl_cons,dval_from];simp
  rw [e,List.length_cons,Nat.pow_succ];have h3:(b.toNat - 48)*10 ^ l.length≤9*10 ^ l.length:=Nat.mul_le_mul_right _ (by omega);omega
theorem own_nil' (base:Nat) (w:World):Own base w (.slice none 0 0) []:=⟨lim_nil,World.ownsRow_nil _ _ _ _⟩
theorem byte_at {s:ByteArray} (h:s.data.toList=l) (i:Nat) (hi:i<l.length):s[i]'(by rw [show s.size=l.length by rw [← h];rfl];exact hi)=l[i]:=by
 subst h;rfl
def isNum (l:List UInt8):Prop:=digs l∧0<l.length
def Parses (w:World) (l:List UInt8) (e:Ending) (w':World):Prop:=
 Below w.heap.size w w'∧(isNum l→∃ zs a c,can zs∧val zs=dval l∧e=.returned (.tuple #[.slice a zs.length c,.bool true])∧Own w.heap.size w' (.slice a zs.length c) zs)∧(¬ isNum l→e=.returned (.tuple #[.slice none 0 0,.bool false]))
theorem extract_list (s:ByteArray) (a b:Nat):(s.extract a b).data.toList=(s.data.toList.drop a).take (b - a):=by
 rw [ByteArray.data_extract,Array.toList_extract]
theorem can_len_pw {zs:List Int} (h:can zs) (M:Nat):(zs.length≤M↔val zs<pw M):=by
 constructor
 · intro hl
   have h1:=(val_bound h.1).2;have h2:=pw_mono hl;omega
 · intro hv
   by_cases hl:zs.length≤M
   · exact hl
   · have h1:=can_low h (by omega)
     have h2:=pw_mono (j:=M) (k:=zs.length - 1) (by omega);omega
def errOf (n:Int):Ending:=.returned (.tuple #[.agg #[.bool false,.slice none 0 0,.slice none 0 0],.int .i64 n])
theorem ten_pw (n:Nat):(((10 ^ n:Nat)):Int)≤pw n:=by
 induction n with
 | zero=>decide
 | succ n ih=>
  rw [pw_succ,Nat.pow_succ,Int.natCast_mul];have h1:(0:Int)≤((10 ^ n:Nat):Int):=Int.natCast_nonneg _;have:=pw_pos n;generalize ((10 ^ n:Nat):Int)=T at *;omega
theorem ten_lt (n:Nat) (h:0<n):(((10 ^ n:Nat)):Int)<pw n:=by
 obtain ⟨k,rfl⟩:∃ k,n=k+1:=⟨n - 1,by omega⟩;rw [pw_succ,Nat.pow_succ,Int.natCast_mul];have h1:=ten_pw k;have:=pw_pos k;generalize ((10 ^ k:Nat):Int)=T at *;omega
theorem Parses.form {w w':World} {e:Ending} (h:Parses w l e w'):Below w.heap.size w w'∧∃ (xs:List Int) (a:Option Addr) (c:Nat) (ok:Bool),e=.returned (.tuple #[.slice a xs.length c,.bool ok])∧Own w.heap.size w' (.slice a xs.length c) xs∧xs.length≤l.length∧Hid ((ok=true↔isNum l)∧(ok=true→can xs∧val xs=(dval l:Int))):=by
 refine ⟨h.1,?_⟩;by_cases hn:isNum l
 · obtain ⟨zs,a,c,cz,vz,he,ho⟩:=h.2.1 hn
   refine ⟨zs,a,c,true,he,ho,?_,⟨fun _=>hn,fun _=>rfl⟩,fun _=>⟨cz,vz⟩⟩;rw [can_len_pw cz,vz];have h1:=dval_lt hn.1;have h2:=ten_lt l.length hn.2;omega
 · exact ⟨[],none,0,false,h.2.2 hn,own_nil' _ _,Nat.zero_le _,⟨(fun e=>by cases e),fun e=>absurd e hn⟩,fun e=>by cases e⟩
theorem runeCount_size (s:ByteArray):∀ fuel pos,s.size≤pos+fuel→s.size≤pos+4*Lib.runeCountFrom s fuel pos
 | 0,pos,h=>by omega
 | f+1,pos,h=>by
  unfold Lib.runeCountFrom;by_cases hp:pos<s.size
  · rw [if_pos hp]
    have hw:(Utf8.decode s pos).2≤4:=by
     simp only [Utf8.decode]
     repeat' split
     all_goals simp
    have h1:=Lib.decode_width_pos s pos hp;have ih:=runeCount_size s f (pos+(Utf8.decode s pos).2) (by omega);omega
  · omega
def PartsMake (w:World) (B:Bool) (m:Int) (A H:List UInt8) (e:Ending) (w':World):Prop:=
 ((¬ isNum A∨(¬ m=0∧¬ isNum H))∧e=errOf 22)∨(isNum A∧m=0∧RMakes w (sg B (dval A)) 1 e w')∨(isNum A∧isNum H∧m=114∧dval H=0∧e=errOf 22) ∨
 (isNum A∧isNum H∧m=114∧0<dval H∧RMakes w (sg B (dval A)) (dval H) e w')∨(isNum A∧isNum H∧m=46∧RMakes w (sg B ((dval A*10 ^ H.length+dval H:Nat):Int)) ((10 ^ H.length:Nat):Int) e w')
def RParses (w:World) (s:ByteArray) (e:Ending) (w':World):Prop:=
 Below w.heap.size w w'∧((700<Lib.runeCount s∧e=errOf 8)∨(¬ 700<Lib.runeCount s∧∃ B m A H,Cuts s.data.toList B m A H∧PartsMake w B m A H e w'))
end
end Go.Proofs.YtimfnalpmmkndaaGreatDoor
