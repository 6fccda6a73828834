/- Plain facts on lists of limbs: what noughts at the end are, what number limbs say. No program is named. -/
import Derived.Test.YtheaeggecpfcbaaGreatProg
import Derived.WalkKit
import Derived.WalkLawsBesides
import Derived.Deep.QuietTactic
import Derived.BigQuiet
import Derived.Laws.AppendOwnNone
import Derived.Lib.AppendZerosOnto
import Derived.Deep.RegionLaw
import Derived.Deep.DeepCutAuto
import Derived.Deep.RegionWith
set_option maxRecDepth 100000
set_option maxHeartbeats 1600000
set_option linter.unusedVariables false
set_option linter.unusedSimpArgs false
namespace Go.Proofs.YtheaeggecpfcbaaGreat
section
/-- How many of the first k limbs are left without noughts at the end. -/
def tl (xs:List Int):Nat→Nat
 | 0=>0
 | k+1=>if xs.getD k 0=0 then tl xs k else k+1
theorem tl_le (xs:List Int) (k:Nat):tl xs k≤k:=by
 induction k with
 | zero=>exact Nat.le_refl _
 | succ k ih=>unfold tl;split <;> omega
theorem tl_zero (xs:List Int) (k:Nat) (h:xs.getD k 0=0):tl xs (k+1)=tl xs k:=by rw [tl,if_pos h]
theorem tl_pos (xs:List Int) (k:Nat) (h:¬ xs.getD k 0=0):tl xs (k+1)=k+1:=by rw [tl,if_neg h]
/-- Limbs without noughts at the end. -/
def tr (xs:List Int):List Int:=xs.take (tl xs xs.length)
theorem tr_length (xs:List Int):(tr xs).length=tl xs xs.length:=by
 unfold tr;rw [List.length_take];have:=tl_le xs xs.length;omega
theorem tr_length_le (xs:List Int):(tr xs).length≤xs.length:=by rw [tr_length];exact tl_le _ _
/-- A limb's powers. -/
def pw (k:Nat):Int:=4294967296 ^ k
theorem pw_zero:pw 0=1:=rfl
theorem pw_succ (k:Nat):pw (k+1)=4294967296*pw k:=by unfold pw;rw [Int.pow_succ,Int.mul_comm]
theorem pw_pos (k:Nat):0<pw k:=by
 induction k with
 | zero=>decide
 | succ k ih=>rw [pw_succ];omega
theorem pw_add (j k:Nat):pw (j+k)=pw j*pw k:=by unfold pw;rw [Int.pow_add]
theorem pw_mono {j k:Nat} (h:j≤k):pw j≤pw k:=by
 induction h with
 | refl=>exact Int.le_refl _
 | step _ ih=>rw [pw_succ];have:=pw_pos j;omega
/-- The number that limbs say, the lowest first. -/
def val:List Int→Int
 | []=>0
 | x :: xs=>x+4294967296*val xs
/-- Each one a limb. -/
def lim (xs:List Int):Prop:=∀ x∈xs,0≤x∧x<4294967296
theorem lim_nil:lim []:=fun _ h=>by cases h
theorem lim_cons {x:Int} {xs:List Int}:lim (x :: xs)↔(0≤x∧x<4294967296)∧lim xs:=by
 unfold lim;simp
theorem lim_append {xs ys:List Int}:lim (xs++ys)↔lim xs∧lim ys:=by
 unfold lim;constructor
 · intro h;exact ⟨fun x hx=>h x (by simp [hx]),fun x hx=>h x (by simp [hx])⟩
 · intro h x hx
   rcases List.mem_append.1 hx with hx | hx
   · exact h.1 x hx
   · exact h.2 x hx
theorem lim_take {xs:List Int} (h:lim xs) (k:Nat):lim (xs.take k):=fun x hx=>h x (List.mem_of_mem_take hx)
theorem lim_drop {xs:List Int} (h:lim xs) (k:Nat):lim (xs.drop k):=fun x hx=>h x (List.mem_of_mem_drop hx)
theorem lim_replicate (n:Nat):lim (List.replicate n 0):=fun x hx=>by
 have:=List.eq_of_mem_replicate hx;omega
theorem lim_getD {xs:List Int} (h:lim xs) (k:Nat):0≤xs.getD k 0∧xs.getD k 0<4294967296:=by
 by_cases hk:k<xs.length
 · have e:xs.getD k 0=xs[k]:=by simp [List.getD,hk]
   rw [e];exact h _ (List.getElem_mem hk)
 · have e:xs.getD k 0=0:=by simp [List.getD,List.getElem?_eq_none (Nat.le_of_not_lt hk)]
   rw [e];omega
theorem lim_set {xs:List Int} (h:lim xs) (k:Nat) (v:Int) (hv:0≤v∧v<4294967296):lim (xs.set k v):=fun x hx=>by
 rcases List.mem_or_eq_of_mem_set hx with hx | hx
 · exact h x hx
 · rw [hx];exact hv
theorem val_append (xs ys:List Int):val (xs++ys)=val xs+pw xs.length*val ys:=by
 induction xs with
 | nil=>simp [val,pw_zero]
 | cons x xs ih=>
  simp only [List.cons_append,val,ih,List.length_cons,pw_succ,Int.mul_add,Int.mul_assoc];omega
theorem val_split (xs:List Int) (k:Nat) (h:k≤xs.length):val xs=val (xs.take k)+pw k*val (xs.drop k):=by
 have e:=val_append (xs.take k) (xs.drop k);rw [List.take_append_drop] at e;have l:(xs.take k).length=k:=by simp;omega
 rw [l] at e;exact e
theorem val_bound {xs:List Int} (h:lim xs):0≤val xs∧val xs<pw xs.length:=by
 induction xs with
 | nil=>simp [val,pw_zero]
 | cons x xs ih=>
  rw [lim_cons] at h;have:=ih h.2;simp only [val,List.length_cons,pw_succ];omega
theorem val_replicate (n:Nat):val (List.replicate n 0)=0:=by
 induction n with
 | zero=>rfl
 | succ n ih=>rw [List.replicate_succ,val,ih];rfl
theorem val_set (xs:List Int) (k:Nat) (v:Int) (h:k<xs.length):val (xs.set k v)=val xs+(v - xs.getD k 0)*pw k:=by
 induction xs generalizing k with
 | nil=>simp at h
 | cons x xs ih=>
  cases k with
  | zero=>simp [val,pw_zero];omega
  | succ k=>
   have:=ih k (by simpa using h);simp only [List.set_cons_succ,val,this,List.getD_cons_succ,pw_succ,Int.mul_add];rw [Int.mul_left_comm];omega
theorem getD_set (xs:List Int) (k j:Nat) (v:Int):(xs.set k v).getD j 0=if k=j∧k<xs.length then v else xs.getD j 0:=by
 simp only [List.getD,List.getElem?_set];by_cases h:k=j
 · subst h
   by_cases h2:k<xs.length
   · simp [h2]
   · simp [h2,List.getElem?_eq_none (Nat.le_of_not_lt h2)]
 · simp [h]
theorem take_succ_getD (xs:List Int) (k:Nat) (h:k<xs.length):xs.take (k+1)=xs.take k++[xs.getD k 0]:=by
 rw [List.take_succ_eq_append_getElem h];simp [List.getD,h]
theorem val_take_succ (xs:List Int) (k:Nat) (h:k<xs.length):val (xs.take (k+1))=val (xs.take k)+xs.getD k 0*pw k:=by
 rw [take_succ_getD xs k h,val_append];have e:(xs.take k).length=k:=by simp;omega
 rw [e];simp only [val];rw [Int.mul_comm (pw k)];simp
theorem val_take_tl (xs:List Int) (k:Nat) (h:k≤xs.length):val (xs.take (tl xs k))=val (xs.take k):=by
 induction k with
 | zero=>rfl
 | succ k ih=>
  by_cases h0:xs.getD k 0=0
  · rw [tl_zero xs k h0,ih (by omega),val_take_succ xs k h,h0];simp
  · rw [tl_pos xs k h0]
theorem val_tr (xs:List Int):val (tr xs)=val xs:=by
 unfold tr;rw [val_take_tl xs _ (Nat.le_refl _),List.take_length]
/-- Right limbs: no nought at the end. -/
def can (xs:List Int):Prop:=lim xs∧(xs.length=0∨¬ xs.getD (xs.length - 1) 0=0)
theorem tl_last (xs:List Int) (k:Nat):tl xs k=0∨¬ xs.getD (tl xs k - 1) 0=0:=by
 induction k with
 | zero=>exact Or.inl rfl
 | succ k ih=>
  by_cases h0:xs.getD k 0=0
  · rw [tl_zero xs k h0];exact ih
  · rw [tl_pos xs k h0];exact Or.inr (by simpa using h0)
theorem tr_can {xs:List Int} (h:lim xs):can (tr xs):=by
 refine ⟨lim_take h _,?_⟩;rw [tr_length];rcases tl_last xs xs.length with h | h
 · exact Or.inl h
 · by_cases h0:tl xs xs.length=0
   · exact Or.inl h0
   · refine Or.inr ?_
     unfold tr;have e:(xs.take (tl xs xs.length)).getD (tl xs xs.length - 1) 0=xs.getD (tl xs xs.length - 1) 0:=by
      simp only [List.getD,List.getElem?_take];rw [if_pos (by omega)]
     rw [e];exact h
theorem can_low {xs:List Int} (h:can xs) (h0:0<xs.length):pw (xs.length - 1)≤val xs:=by
 obtain ⟨k,hk⟩:∃ k,xs.length=k+1:=⟨xs.length - 1,by omega⟩;have e:xs=xs.take (k+1):=by rw [← hk,List.take_length]
 have h1:val xs=val (xs.take k)+xs.getD k 0*pw k:=by rw [← val_take_succ xs k (by omega),← e]
 have h2:=(val_bound (lim_take h.1 k)).1;have h3:=lim_getD h.1 k;have h4:¬ xs.getD k 0=0:=by
  rcases h.2 with h | h
  · omega
  · rw [hk] at h;simpa using h
 have h5:1*pw k≤xs.getD k 0*pw k:=Int.mul_le_mul_of_nonneg_right (by omega) (Int.le_of_lt (pw_pos k));rw [hk];simp only [Nat.add_sub_cancel];omega
theorem val_inj_len {xs ys:List Int} (hx:lim xs) (hy:lim ys) (hl:xs.length=ys.length) (h:val xs=val ys):xs=ys:=by
 induction xs generalizing ys with
 | nil=>cases ys with
  | nil=>rfl
  | cons=>simp at hl
 | cons x xs ih=>cases ys with
  | nil=>simp at hl
  | cons y ys=>
   rw [lim_cons] at hx hy;simp only [val] at h;have h1:x=y:=by omega
   have h2:val xs=val ys:=by omega
   rw [h1,ih hx.2 hy.2 (by simpa using hl) h2]
theorem can_len_lt {xs ys:List Int} (hx:can xs) (hy:can ys) (h:xs.length<ys.length):val xs<val ys:=by
 have h1:=(val_bound hx.1).2;have h2:=can_low hy (by omega);have h3:=pw_mono (j:=xs.length) (k:=ys.length - 1) (by omega);omega
theorem can_inj {xs ys:List Int} (hx:can xs) (hy:can ys) (h:val xs=val ys):xs=ys:=by
 refine val_inj_len hx.1 hy.1 ?_ h;rcases Nat.lt_trichotomy xs.length ys.length with hl | hl | hl
 · have:=can_len_lt hx hy hl;omega
 · exact hl
 · have:=can_len_lt hy hx hl;omega
theorem can_zero {xs:List Int} (h:can xs):xs.length=0↔val xs=0:=by
 constructor
 · intro h0
   have e:xs=[]:=List.eq_nil_of_length_eq_zero h0;rw [e];rfl
 · intro h0
   by_cases h1:0<xs.length
   · have:=can_low h h1;have:=pw_pos (xs.length - 1);omega
   · omega
/-- Limbs from place k on, compared from the top: what is below decides nothing. -/
theorem val_lt_top {xs ys:List Int} (hx:lim xs) (hy:lim ys) (hl:xs.length=ys.length) (k:Nat) (hk:k<xs.length) (hd:xs.drop (k+1)=ys.drop (k+1)) (h:xs.getD k 0<ys.getD k 0):val xs<val ys:=by
 have ex:=val_split xs (k+1) (by omega);have ey:=val_split ys (k+1) (by omega);rw [hd] at ex;have bx:=val_bound (lim_take hx k);have by':=val_bound (lim_take hy k);have lk:(xs.take k).length=k:=by simp;omega
 rw [lk] at bx;rw [ex,ey,val_take_succ xs k hk,val_take_succ ys k (by omega)];have h5:(xs.getD k 0+1)*pw k≤ys.getD k 0*pw k:=Int.mul_le_mul_of_nonneg_right (by omega) (Int.le_of_lt (pw_pos k));rw [Int.add_mul,Int.one_mul] at h5;omega
theorem drop_eq_step (xs ys:List Int) (k:Nat) (hx:k<xs.length) (hy:k<ys.length) (hd:xs.drop (k+1)=ys.drop (k+1)) (h:xs.getD k 0=ys.getD k 0):xs.drop k=ys.drop k:=by
 have e1:xs.drop k=xs.getD k 0 :: xs.drop (k+1):=by rw [List.drop_eq_getElem_cons hx];simp [List.getD,hx]
 have e2:ys.drop k=ys.getD k 0 :: ys.drop (k+1):=by rw [List.drop_eq_getElem_cons hy];simp [List.getD,hy]
 rw [e1,e2,hd,h]
/-- Which of two is greater, as Go's answers say it. -/
def cmpI (a b:Int):Int:=if a<b then -1 else if a=b then 0 else 1
theorem cmpI_lt {a b:Int} (h:a<b):cmpI a b = -1:=by unfold cmpI;rw [if_pos h]
theorem cmpI_eq {a b:Int} (h:a=b):cmpI a b=0:=by unfold cmpI;rw [if_neg (by omega),if_pos h]
theorem cmpI_gt {a b:Int} (h:b<a):cmpI a b=1:=by unfold cmpI;rw [if_neg (by omega),if_neg (by omega)]
end
section
open Go.RowKit
def lenOf:Value→Nat | .slice _ n _=>n | _=>0
/-- A slice cut at its k-th element. -/
def vtake:Value→Nat→Value | .slice a _ c,k=>.slice a k c | v,_=>v
theorem ret_len {a:Option Addr} {c m n:Nat} (h:m=n):Ending.returned (.slice a m c)=.returned (.slice a n c):=by rw [h]
theorem ret_int {k:IntKind} {a b:Int} (h:a=b):Ending.returned (.int k a)=.returned (.int k b):=by rw [h]
theorem ret_bool {a b:Bool} (h:a=b):Ending.returned (.bool a)=.returned (.bool b):=by rw [h]
/-- v reads as the limbs xs; its memory lies below block B. -/
def Rd (B:Nat) (w:World) (v:Value) (xs:List Int):Prop:=
 lim xs∧∃ a cap,v=.slice a xs.length cap∧xs.length≤cap∧cap≤9223372036854775807∧(a=none→cap=0) ∧
  (xs.length=0∨∃ b off,a=some ⟨b,off,none⟩∧b<B∧∀ j,j<xs.length→w.cell? ⟨b,off+j,none⟩=some (.int .u32 (xs.getD j 0)))
theorem Rd.lim {B:Nat} {w:World} {v:Value} {xs:List Int} (h:Rd B w v xs):lim xs:=h.1
theorem Rd.below {B:Nat} {w w':World} {v:Value} {xs:List Int} (h:Rd B w v xs) (hb:Below B w w'):Rd B w' v xs:=by
 obtain ⟨hl,a,cap,hv,h1,h2,hn,h3⟩:=h;refine ⟨hl,a,cap,hv,h1,h2,hn,?_⟩;rcases h3 with h3 | ⟨b,off,ha,hbB,hc⟩
 · exact Or.inl h3
 · exact Or.inr ⟨b,off,ha,hbB,fun j hj=>(hb.cell (p:=⟨b,off+j,none⟩) hbB).trans (hc j hj)⟩
theorem Rd.mono {B B':Nat} {w:World} {v:Value} {xs:List Int} (h:Rd B w v xs) (hB:B≤B'):Rd B' w v xs:=by
 obtain ⟨hl,a,cap,hv,h1,h2,hn,h3⟩:=h;refine ⟨hl,a,cap,hv,h1,h2,hn,?_⟩;rcases h3 with h3 | ⟨b,off,ha,hbB,hc⟩
 · exact Or.inl h3
 · exact Or.inr ⟨b,off,ha,by omega,hc⟩
theorem Rd.take {B:Nat} {w:World} {v:Value} {xs:List Int} (h:Rd B w v xs) (k:Nat) (hk:k≤xs.length):Rd B w (vtake v k) (xs.take k):=by
 obtain ⟨hl,a,cap,hv,h1,h2,hn,h3⟩:=h;have e:(xs.take k).length=k:=by simp;omega
 refine ⟨lim_take hl k,a,cap,by rw [hv,e];rfl,by omega,h2,hn,?_⟩;rcases h3 with h3 | ⟨b,off,ha,hbB,hc⟩
 · exact Or.inl (by omega)
 · refine Or.inr ⟨b,off,ha,hbB,fun j hj => ?_⟩
   rw [hc j (by omega)];have:(xs.take k).getD j 0=xs.getD j 0:=by simp only [List.getD,List.getElem?_take];rw [if_pos (by omega)]
   rw [this]
/-- v is nil, or the head of a row of the call's own (blocks from 'base' on) that holds the limbs xs. -/
def Own (base:Nat) (w:World) (v:Value) (xs:List Int):Prop:=lim xs∧w.ownsRow base 92 1 v xs.length (xs.map (Value.int .u32))
theorem Own.lim {B:Nat} {w:World} {v:Value} {xs:List Int} (h:Own B w v xs):lim xs:=h.1
theorem getD_map_u32 (xs:List Int) (j:Nat) (h:j<xs.length):(xs.map (Value.int .u32))[j]? = some (.int .u32 (xs.getD j 0)):=by
 simp [List.getD,h]
theorem Own.shape {base:Nat} {w:World} {v:Value} {xs:List Int} (h:Own base w v xs) :
    (v=.slice none 0 0∧xs=[])∨∃ g cap,v=.slice (some ⟨g,0,none⟩) xs.length cap∧base≤g∧g<w.heap.size∧xs.length≤cap∧cap≤9223372036854775807:=by
 obtain ⟨_,_,h | ⟨g,cap,cur,hv,hg,hh,h1,h2,_,_⟩⟩:=h
 · exact Or.inl ⟨h.1,List.eq_nil_of_length_eq_zero h.2⟩
 · exact Or.inr ⟨g,cap,hv,hg,lt_of_block hh,h1,by unfold maxLen at h2;omega⟩
theorem Own.rd {base:Nat} {w:World} {v:Value} {xs:List Int} (h:Own base w v xs):Rd w.heap.size w v xs:=by
 have hsh:=h.shape;obtain ⟨hl,hrow⟩:=h;rcases hsh with ⟨rfl,rfl⟩ | ⟨g,cap,rfl,hg,hlt,h1,h2⟩
 · exact ⟨hl,none,0,rfl,Nat.le_refl _,by omega,fun _=>rfl,Or.inl rfl⟩
 · refine ⟨hl,_,cap,rfl,h1,h2,(fun h=>by cases h),Or.inr ⟨g,0,rfl,hlt,fun j hj => ?_⟩⟩
   have:=hrow.cellAt j (by omega);rw [getD_map_u32 xs j hj] at this;rw [Nat.zero_add];exact this
theorem Own.mono {base base':Nat} {w:World} {v:Value} {xs:List Int} (h:Own base w v xs) (hB:base'≤base):Own base' w v xs:=by
 obtain ⟨hl,h1,h | ⟨g,cap,cur,hv,hg,r⟩⟩:=h
 · exact ⟨hl,h1,Or.inl h⟩
 · exact ⟨hl,h1,Or.inr ⟨g,cap,cur,hv,by omega,r⟩⟩
/-- Behind new memory alone it is owned as it was. -/
theorem Own.below {base B:Nat} {w w':World} {v:Value} {xs:List Int} (h:Own base w v xs) (hb:Below B w w') (hB:w.heap.size≤B):Own base w' v xs:=by
 obtain ⟨hl,h1,h | ⟨g,cap,cur,hv,hg,hh,r⟩⟩:=h
 · exact ⟨hl,h1,Or.inl h⟩
 · exact ⟨hl,h1,Or.inr ⟨g,cap,cur,hv,hg,by rw [hb.block g (Nat.lt_of_lt_of_le (lt_of_block hh) hB)];exact hh,r⟩⟩
theorem Own.alloc {base:Nat} {w:World} {v:Value} {xs:List Int} (h:Own base w v xs) (o:Obj):Own base (w.alloc o) v xs:=⟨h.1,h.2.alloc o⟩
theorem Own.setCell {base:Nat} {w:World} {v:Value} {xs:List Int} (h:Own base w v xs) {a:Addr} (ha:v.ownBlock≠some a.block) (u:Value):Own base (w.setCell a u) v xs:=⟨h.1,ownsRow_setCell_other h.2 ha u⟩
theorem Own.take {base:Nat} {w:World} {v:Value} {xs:List Int} (h:Own base w v xs) (k:Nat) (hk:k≤xs.length):Own base w (vtake v k) (xs.take k):=by
 have e:(xs.take k).length=k:=by simp;omega
 obtain ⟨hl,h1,h | ⟨g,cap,cur,hv,hg,hh,h2,h3,h4,h5⟩⟩:=h
 · have:xs=[]:=List.eq_nil_of_length_eq_zero h.2
   subst this;have hk0:k=0:=by simpa using hk
   subst hk0;rw [h.1];exact ⟨lim_take hl 0,by simp,Or.inl ⟨rfl,rfl⟩⟩
 · refine ⟨lim_take hl k,by simp,Or.inr ⟨g,cap,cur,by rw [hv,e];rfl,hg,hh,by omega,h3,h4,?_⟩⟩
   rw [e,List.map_take,← h5,List.take_take]
   congr 1
   omega
theorem meant_some (b off n cap:Nat) (xs:List Int) (w:World) (hx:xs.length=n) (hnc:n≤cap) (hbig:cap≤9223372036854775807)
    (hc:∀ j,j<n→w.cell? ⟨b,off+j,none⟩=some (.int .u32 (xs.getD j 0))) :
    Calls Tryz.prog 133 #[.slice (some ⟨b,off,none⟩) n cap] w fun e w'=>e=.returned (.slice (some ⟨b,off,none⟩) (tl xs n) cap)∧w=w':=by
 go_enter Tryz.func133,Tryz.ntmps133;go_wp2
 go_loop [0] (fun v=>∃ k:Nat,k≤n∧v=.slice (some ⟨b,off,none⟩) k cap∧Hid (tl xs k=tl xs n)) (fun v=>lenOf v)
 case atStart=>exact ⟨n,Nat.le_refl _,rfl,rfl⟩
 case round=>
  obtain ⟨k,hk,rfl,ht⟩:=hrel
  cases k with
  | zero=>
   go_wp2
   go_ret
   exact ⟨ret_len ht.out,rfl⟩
  | succ k=>
   have hcell:=hc k (by omega);by_cases h0:xs.getD k 0=0
   · rw [h0] at hcell
     clear hc;go_wp2
     go_round
     case rel=>exact ⟨k,by omega,by go_num,by unfold Hid;rw [← ht.out,tl_zero xs k h0]⟩
     case measure=>simp [lenOf]
   · have hne:(xs.getD k 0==0)=false:=by simpa using h0
     generalize hg:xs.getD k 0=g at *;have HG:Hid (xs.getD k 0=g):=hg;clear hg hc;go_wp2
     go_ret
     exact ⟨ret_len (by rw [← ht.out,tl_pos xs k (by rw [HG.out];exact h0)]),rfl⟩
theorem meant_empty (a:Option Addr) (cap:Nat) (w:World) :
    Calls Tryz.prog 133 #[.slice a 0 cap] w fun e w'=>e=.returned (.slice a 0 cap)∧w=w':=by
 go_enter Tryz.func133,Tryz.ntmps133;go_wp2
 refine wp_loop_rounds 1 ?_;rw [rounds_succ];go_wp2
 go_ret
 exact ⟨rfl,rfl⟩
/-- nat.meant at whatever slice of limbs. -/
theorem meant_rd {B:Nat} {w:World} {v:Value} {xs:List Int} (h:Rd B w v xs) :
    Calls Tryz.prog 133 #[v] w fun e w'=>e=.returned (vtake v (tl xs xs.length))∧w=w':=by
 obtain ⟨hl,a,cap,rfl,h1,h2,hn,h3⟩:=h;rcases h3 with h3 | ⟨b,off,rfl,hbB,hc⟩
 · have e:xs=[]:=List.eq_nil_of_length_eq_zero h3
   subst e;exact meant_empty a cap w
 · exact meant_some b off xs.length cap xs w rfl h1 h2 hc
theorem Rd.meant {B:Nat} {w:World} {v:Value} {xs:List Int} (h:Rd B w v xs):Rd B w (vtake v (tl xs xs.length)) (tr xs):=h.take _ (tl_le _ _)
theorem Own.meant {B:Nat} {w:World} {v:Value} {xs:List Int} (h:Own B w v xs):Own B w (vtake v (tl xs xs.length)) (tr xs):=h.take _ (tl_le _ _)
def Says1 (P:Program) (f:Nat) (v:Value) (w:World) (r:Value):Prop:=Calls P f #[v] w fun e w'=>e=.returned r∧w=w'
theorem quiet_add {P:Program} {f:FuncId} {args:Array Value} {w:World} {n m:Nat} {v:Value} (h:Calls P f args (w.drewN (n+m)) fun e w'=>e=.returned v∧w'=w.drewN (n+m)) :
    Calls P f args (w.drewN (n+m)) fun e w''=>e=.returned v∧∃ k,w''=w.drewN (n+k):=h.mono fun _ _ ⟨he,hm⟩=>⟨he,m,hm⟩
theorem drew3 (w:World) (a b c:Nat):((w.drewN a).drewN b).drewN c=w.drewN (a+b+c):=by rw [World.drewN_drewN,World.drewN_drewN,Nat.add_assoc]
theorem order_yes (w:World):Calls Tryz.prog 193 #[.bool true] w fun e w'=>e=.returned (.int .i64 (-1))∧w'=w:=by
 go_enter Tryz.func193,Tryz.ntmps193;go_wp2
 go_ret
 exact ⟨rfl,rfl⟩
theorem order_no (w:World):Calls Tryz.prog 193 #[.bool false] w fun e w'=>e=.returned (.int .i64 1)∧w'=w:=by
 go_enter Tryz.func193,Tryz.ntmps193;go_wp2
 go_ret
 exact ⟨rfl,rfl⟩
theorem compare_len (v1 v2:Value) (a1 a2:Option Addr) (l1 c1 l2 c2:Nat) (w:World) (b1:l1≤9223372036854775807) (b2:l2≤9223372036854775807)
    (h1:Says1 Tryz.prog 133 v1 w (.slice a1 l1 c1)) (h2:Says1 Tryz.prog 133 v2 w (.slice a2 l2 c2)) (hlt:¬ l1=l2) :
    Calls Tryz.prog 186 #[v1,v2] w fun e w'=>e=.returned (.int .i64 (if l1<l2 then -1 else 1))∧w=w':=by
 have t0:(((l1:Nat):Int) != ((l2:Nat):Int))=true:=by rw [bne_iff_ne];omega
 by_cases h:l1<l2
 all_goals
  have t1:=h;go_enter Tryz.func186,Tryz.ntmps186
  go_wp2_with fail
  refine (h1).mono ?_;rintro e w' ⟨rfl,rfl⟩
  go_wp2_with fail
  refine (h2).mono ?_;rintro e w' ⟨rfl,rfl⟩;go_wp2
  go_ret
  first | exact ⟨by rw [if_pos h],rfl⟩ | exact ⟨by rw [if_neg h],rfl⟩ | (simp [h];done)
theorem compare_none (v1 v2:Value) (a1 a2:Option Addr) (c1 c2:Nat) (w:World)
    (h1:Says1 Tryz.prog 133 v1 w (.slice a1 0 c1)) (h2:Says1 Tryz.prog 133 v2 w (.slice a2 0 c2)) :
    Calls Tryz.prog 186 #[v1,v2] w fun e w'=>e=.returned (.int .i64 0)∧w=w':=by
 go_enter Tryz.func186,Tryz.ntmps186
 go_wp2_with fail
 refine (h1).mono ?_;rintro e w' ⟨rfl,rfl⟩
 go_wp2_with fail
 refine (h2).mono ?_;rintro e w' ⟨rfl,rfl⟩;go_wp2
 refine wp_loop_rounds 1 ?_;rw [rounds_succ];go_wp2
 go_ret
 exact ⟨rfl,rfl⟩
theorem compare_walk (v1 v2:Value) (b1 o1 c1 b2 o2 c2 l:Nat) (xs ys:List Int) (w:World) (hb:l+1≤9223372036854775807) (hx:xs.length=l+1) (hy:ys.length=l+1)
    (lx:lim xs) (ly:lim ys)
    (k1:∀ j,j<l+1→w.cell? ⟨b1,o1+j,none⟩=some (.int .u32 (xs.getD j 0)))
    (k2:∀ j,j<l+1→w.cell? ⟨b2,o2+j,none⟩=some (.int .u32 (ys.getD j 0)))
    (h1:Says1 Tryz.prog 133 v1 w (.slice (some ⟨b1,o1,none⟩) (l+1) c1)) (h2:Says1 Tryz.prog 133 v2 w (.slice (some ⟨b2,o2,none⟩) (l+1) c2)) :
    Calls Tryz.prog 186 #[v1,v2] w fun e w'=>e=.returned (.int .i64 (cmpI (val xs) (val ys)))∧∃ n,w'=w.drewN n:=by
 have K1:Hid (∀ j,j<l+1→w.cell? ⟨b1,o1+j,none⟩=some (.int .u32 (xs.getD j 0))):=k1;have K2:Hid (∀ j,j<l+1→w.cell? ⟨b2,o2+j,none⟩=some (.int .u32 (ys.getD j 0))):=k2;have HX:Hid (xs.length=l+1):=hx;have HY:Hid (ys.length=l+1):=hy;clear k1 k2 hx hy;go_enter Tryz.func186,Tryz.ntmps186
 go_wp2_with fail
 refine (h1).mono ?_;rintro e w' ⟨rfl,rfl⟩
 go_wp2_with fail
 refine (h2).mono ?_;rintro e w' ⟨rfl,rfl⟩;go_wp2
 go_loopw [5] (fun s wr=>(∃ n,wr=w.drewN n)∧((∃ j:Nat,j<l+1∧s=.int .i64 j∧Hid (xs.drop (j+1)=ys.drop (j+1)))∨(s=.int .i64 (-1)∧Hid (xs=ys)))) (fun s _=>(intOf s+1).toNat)
 case atStart=>exact ⟨⟨0,rfl⟩,Or.inl ⟨l,by omega,by go_num,by unfold Hid;rw [List.drop_of_length_le (by rw [HX.out];omega),List.drop_of_length_le (by rw [HY.out];omega)]⟩⟩
 case round=>
  obtain ⟨⟨n,rfl⟩,⟨j,hj,rfl,hd⟩ | ⟨rfl,he⟩⟩:=hrel
  · have g1:=K1.out j hj
    have g2:=K2.out j hj;have r1:=lim_getD lx j;have r2:=lim_getD ly j;generalize hp:xs.getD j 0=p at *;generalize hq:ys.getD j 0=q at *;have HP:Hid (xs.getD j 0=p):=hp;have HQ:Hid (ys.getD j 0=q):=hq;clear hp hq;by_cases hpq:p=q
    · subst hpq
      cases j with
      | zero=>
       rw [Nat.add_zero] at g1 g2;go_wp2
       go_quiet (fail)
       go_wp2
       go_roundw
       case rel=>exact ⟨⟨_,rfl⟩,Or.inr ⟨rfl,by
        unfold Hid;have h0:=drop_eq_step xs ys 0 (by rw [HX.out];omega) (by rw [HY.out];omega) hd.out (by rw [HP.out,HQ.out]);simpa using h0⟩⟩
       case measure=>simp [intOf]
      | succ j=>
       go_wp2
       go_quiet (fail)
       go_wp2
       go_roundw
       case rel=>exact ⟨⟨_,rfl⟩,Or.inl ⟨j,by omega,by go_num,by
        unfold Hid;exact drop_eq_step xs ys (j+1) (by rw [HX.out];omega) (by rw [HY.out];omega) hd.out (by rw [HP.out,HQ.out])⟩⟩
       case measure=>simp [intOf];omega
    · have hne:(p != q)=true:=by rw [bne_iff_ne];exact hpq
      by_cases hlt:p<q
      · have hc:cmpI (val xs) (val ys) = -1:=cmpI_lt (val_lt_top lx ly (by rw [HX.out,HY.out]) j (by rw [HX.out];omega) hd.out (by rw [HP.out,HQ.out];exact hlt))
        have HC:Hid (cmpI (val xs) (val ys) = -1):=hc;clear hpq hc;go_wp2
        go_quiet (fail)
        go_wp2
        go_quiet ((go_at_call 193;exact quiet_add (order_yes _)))
        go_wp2
        go_ret
        exact ⟨ret_int HC.out.symm,_,drew3 _ _ _ _⟩
      · have hc:cmpI (val xs) (val ys)=1:=cmpI_gt (val_lt_top ly lx (by rw [HX.out,HY.out]) j (by rw [HY.out];omega) hd.out.symm (by rw [HP.out,HQ.out];omega))
        have HC:Hid (cmpI (val xs) (val ys)=1):=hc;clear hpq hc;have hlf:decide (p<q)=false:=by simpa using hlt
        go_wp2
        go_quiet (fail)
        go_wp2
        go_quiet ((go_at_call 193;exact quiet_add (order_no _)))
        go_wp2
        go_ret
        exact ⟨ret_int HC.out.symm,_,drew3 _ _ _ _⟩
  · go_wp2
    go_ret
    exact ⟨ret_int (cmpI_eq (by rw [he.out])).symm,_,rfl⟩
/-- nat.Compare at whatever two slices of limbs: which number is greater; nothing is written. -/
theorem compare_rd {B B':Nat} {w:World} {v1 v2:Value} {xs ys:List Int} (h1:Rd B w v1 xs) (h2:Rd B' w v2 ys) :
    Calls Tryz.prog 186 #[v1,v2] w fun e w'=>e=.returned (.int .i64 (cmpI (val xs) (val ys)))∧∃ n,w'=w.drewN n:=by
 have m1:=meant_rd h1;have m2:=meant_rd h2;have t1:=h1.meant;have t2:=h2.meant;rw [← val_tr xs,← val_tr ys];have c1:=tr_can h1.lim;have c2:=tr_can h2.lim;have s1:=tr_length_le xs;have s2:=tr_length_le ys;obtain ⟨_,a1,p1,e1,i1,j1,_,f1⟩:=h1;obtain ⟨_,a2,p2,e2,i2,j2,_,f2⟩:=h2;rw [← tr_length] at m1 m2 t1 t2;obtain ⟨_,a1',p1',e1',_,_,_,r1⟩:=t1;obtain ⟨_,a2',p2',e2',_,_,_,r2⟩:=t2;rw [e1'] at m1;rw [e2'] at m2;generalize tr xs=us at *;generalize tr ys=vs at *;by_cases hl:us.length=vs.length
 · by_cases h0:us.length=0
   · have k1:us=[]:=List.eq_nil_of_length_eq_zero h0
     have k2:vs=[]:=List.eq_nil_of_length_eq_zero (by omega);subst k1 k2;refine (compare_none v1 v2 a1' a2' p1' p2' w m1 m2).mono ?_;rintro e w' ⟨rfl,rfl⟩;exact ⟨rfl,0,rfl⟩
   · obtain ⟨l,hl1⟩:∃ l,us.length=l+1:=⟨us.length - 1,by omega⟩
     have hl2:vs.length=l+1:=by omega
     rcases r1 with r1 | ⟨b1,o1,rfl,_,k1⟩
     · omega
     rcases r2 with r2 | ⟨b2,o2,rfl,_,k2⟩
     · omega
     rw [hl1] at m1 k1;rw [hl2] at m2 k2;exact compare_walk v1 v2 b1 o1 p1' b2 o2 p2' l us vs w (by omega) hl1 hl2 c1.1 c2.1 k1 k2 m1 m2
 · refine (compare_len v1 v2 a1' a2' us.length p1' vs.length p2' w (by omega) (by omega) m1 m2 hl).mono ?_
   rintro e w' ⟨rfl,rfl⟩;refine ⟨ret_int ?_,0,rfl⟩;by_cases h:us.length<vs.length
   · rw [if_pos h,cmpI_lt (can_len_lt c1 c2 h)]
   · rw [if_neg h,cmpI_gt (can_len_lt c2 c1 (by omega))]
theorem info_u32:(Tryz.prog.info? 92).map (fun i=>(i.zero,i.size,i.bytes))=some (some (.int .u32 0),1,4):=by kernel_rfl
/-- What a call that makes limbs hands back: a slice of its own, with these limbs; nothing that was there has turned. -/
def Makes (w:World) (e:Ending) (w':World) (xs:List Int):Prop:=∃ a c,e=.returned (.slice a xs.length c)∧Own w.heap.size w' (.slice a xs.length c) xs∧Below w.heap.size w w'
theorem Own.form {base:Nat} {w:World} {v:Value} {xs:List Int} (h:Own base w v xs):∃ a c,v=.slice a xs.length c:=by
 rcases h.shape with ⟨rfl,rfl⟩ | ⟨g,cap,rfl,_⟩
 · exact ⟨none,0,rfl⟩
 · exact ⟨_,cap,rfl⟩
theorem Makes.of {w w':World} {e:Ending} {v:Value} {xs:List Int} (he:e=.returned v) (ho:Own w.heap.size w' v xs) (hb:Below w.heap.size w w'):Makes w e w' xs:=by
 obtain ⟨a,c,rfl⟩:=ho.form;exact ⟨a,c,he,ho,hb⟩
theorem cells_news {w:World} {b off:Nat} {us:List Int} (hc:∀ j,j<us.length→w.cell? ⟨b,off+j,none⟩=some (.int .u32 (us.getD j 0))) :
    ∀ j u,(us.map (Value.int .u32))[j]? = some u→w.cell? ((⟨b,off,none⟩:Addr).add j)=some u:=by
 intro j u h;have hj:j<us.length:=by
  have:=(List.getElem?_eq_some_iff.1 h).1;simpa using this
 rw [getD_map_u32 us j hj] at h;rw [← h,← hc j hj];have e:(⟨b,off,none⟩:Addr).add j=⟨b,off+j,none⟩:=by
  cases j with
  | zero=>simp [Addr.add]
  | succ j=>simp [Addr.add]
 rw [e]
theorem Makes.alloc {w w':World} {e:Ending} {xs:List Int} {o:Obj} (h:Makes (w.alloc o) e w' xs):Makes w e w' xs:=by
 obtain ⟨a,c,he,ho,hb⟩:=h;refine ⟨a,c,he,ho.mono (by simp),?_⟩;exact ((Below.refl _ w).alloc (Nat.le_refl _) o).trans (hb.mono (by simp))
theorem rd_two (w:World) (x y:Int) (hx:0≤x∧x<4294967296) (hy:0≤y∧y<4294967296) :
    Rd (w.heap.size+1) (w.alloc (.cells #[.int .u32 x,.int .u32 y] 92)) (.slice (some ⟨w.heap.size,0,none⟩) 2 2) [x,y]:=by
 refine ⟨fun z hz => ?_,_,2,rfl,Nat.le_refl _,by omega,(fun h=>by cases h),Or.inr ⟨w.heap.size,0,rfl,by omega,fun j hj => ?_⟩⟩
 · simp at hz;rcases hz with rfl | rfl
   · exact hx
   · exact hy
 · match j,hj with
   | 0,_=>simp
   | 1,_=>simp
theorem trim_some (v1:Value) (ad:Addr) (c:Nat) (us:List Int) (w:World) (hl:lim us) (hsz:us.length*4≤140737488355328)
    (HN:∀ j u,(us.map (Value.int .u32))[j]? = some u→w.cell? (ad.add j)=some u)
    (h1:Says1 Tryz.prog 133 v1 w (.slice (some ad) us.length c)) :
    Calls Tryz.prog 89 #[v1] w fun e w'=>Makes w e w' us:=by
 obtain ⟨i0,hi,hz0,hz1,hz2⟩:=info_parts info_u32;go_enter Tryz.func89,Tryz.ntmps89
 go_wp2_with fail
 refine (h1).mono ?_;rintro e w' ⟨rfl,rfl⟩
 go_wp2_with (at_builtin;refine wpList_append_own _ rfl _ _ 32 rfl w.heap.size 92 i0 (.int .u32 0) 1 4 Tryz.underlying32 hi hz0 hz1 hz2 rfl (by decide) _ _ _ rfl (World.ownsRow_nil _ _ _ _) ad us.length c (us.map (Value.int .u32)) rfl (by simp) HN (ints_oneCell _ _) ?c1 ?c2 (Nat.le_refl _) ?_)
 case c1=>unfold maxLen;omega
 case c2=>omega
 intro v' w1 hown hgrow _;go_wp2
 go_ret
 exact Makes.of rfl ⟨hl,hown⟩ ((Below.refl _ _).grown hgrow (Nat.le_refl _) (fun k h=>by cases h))
theorem trim_none (v1:Value) (w:World)
    (h1:Says1 Tryz.prog 133 v1 w (.slice none 0 0)) :
    Calls Tryz.prog 89 #[v1] w fun e w'=>Makes w e w' []:=by
 obtain ⟨i0,hi,hz0,hz1,hz2⟩:=info_parts info_u32;go_enter Tryz.func89,Tryz.ntmps89
 go_wp2_with fail
 refine (h1).mono ?_;rintro e w' ⟨rfl,rfl⟩;go_wp2
 go_ret
 exact Makes.of rfl ⟨lim_nil,World.ownsRow_nil _ _ _ _⟩ (Below.refl _ _)
/-- nat.Trim at whatever slice of limbs. -/
theorem trim_rd {B:Nat} {w:World} {v:Value} {xs:List Int} (h:Rd B w v xs) (hsz:xs.length*4≤140737488355328) :
    Calls Tryz.prog 89 #[v] w fun e w'=>Makes w e w' (tr xs):=by
 have m:=meant_rd h;have t:=h.meant;have hs:=tr_length_le xs;rw [← tr_length] at m t;obtain ⟨hl,a,p,e,_,_,hn,r⟩:=t;rw [e] at m;generalize tr xs=us at *
 cases a with
 | none=>
  have hp:=hn rfl;subst hp;have e0:us.length=0:=by
   rcases r with r | ⟨_,_,h,_⟩
   · exact r
   · cases h
  have e1:us=[]:=List.eq_nil_of_length_eq_zero e0;subst e1;exact trim_none v w m
 | some ad=>
  refine trim_some v ad p us w hl (by omega) ?_ m;rcases r with r | ⟨b,off,h,_,hc⟩
  · have e1:us=[]:=List.eq_nil_of_length_eq_zero r
    subst e1;intro j u h;simp at h
  · cases h
    exact cells_news hc
/-- nat.Of: a number below 2^64 in limbs. -/
theorem of_any (n:Int) (h0:0≤n) (h1:n<18446744073709551616) (w:World) :
    Calls Tryz.prog 51 #[.int .u64 n] w fun e w'=>Makes w e w' (tr [n % 4294967296,n/4294967296]):=by
 go_enter Tryz.func51,Tryz.ntmps51
 go_wp2_with fail
 refine (trim_rd (rd_two w (n % 4294967296) (n/4294967296) (by omega) (by omega)) (by simp)).mono ?_;intro e w' hm;obtain ⟨a,c,rfl,ho,hb⟩:=hm.alloc;go_wp2
 go_ret
 exact ⟨a,c,rfl,ho,hb⟩
/-- One cell of a local variable whose address is taken. -/
def Box (w:World) (B:Nat) (ty:TypeId) (v:Value):Prop:=w.heap[B]? = some (.cells #[v] ty (0,0))
/-- The same of a call that hands back a running number. -/
def BoxMakes (w:World) (e:Ending) (w':World) (xs:List Int):Prop:=∃ a c,e=.returned (.agg #[.slice a xs.length c])∧Own w.heap.size w' (.slice a xs.length c) xs∧Below w.heap.size w w'
theorem ownBlock_ne {base k:Nat} {w:World} {v:Value} {xs:List Int} (h:Own base w v xs) (hk:k<base):v.ownBlock≠some k:=by
 intro e;have:=(h.2.lt k e).1;omega
theorem beginAt_any (n:Int) (h0:0≤n) (h1:n<18446744073709551616) (w:World) :
    Calls Tryz.prog 169 #[.int .u64 n] w fun e w'=>BoxMakes w e w' (tr [n % 4294967296,n/4294967296]):=by
 go_enter Tryz.func169,Tryz.ntmps169
 go_wp2_with fail
 refine (of_any n h0 h1 _).mono ?_;intro e w1 hm;obtain ⟨a,c,rfl,ho,hb⟩:=hm;have hz:w.heap.size<w1.heap.size:=by have:=hb.size;simp at this;omega
 have hbx:Box w1 w.heap.size 161 (.slice none 0 0):=by unfold Box;rw [hb.block _ (by simp)];exact heap_alloc_new _ _
 have hc:=cell_of_one hbx;have hf:=free_of_one hbx;have hs:∀ u,(w1.setCell ⟨w.heap.size,0,none⟩ u).cell? ⟨w.heap.size,0,none⟩=some u:=fun u=>cell_of_one (one_setCell (u:=u) hbx);generalize hN:(tr [n % 4294967296,n/4294967296]).length=N at *;have HN:Hid ((tr [n % 4294967296,n/4294967296]).length=N):=hN;clear hN hbx;go_wp2
 refine bodyPost_ret (v:=.agg #[.slice a N c]) (by simp [results,Tryz.results169,go_sem,hz,hs]) rfl ?_;obtain rfl:=HN.out;exact ⟨a,c,rfl,((ho.mono (by simp)).setCell (ownBlock_ne ho (by simp)) _),(((Below.refl _ w).alloc (Nat.le_refl _) _).trans (hb.mono (by simp))).setCell (Nat.le_refl _) _⟩
theorem trimM_any {B ty Br:Nat} {w:World} {v:Value} {xs:List Int} (hbox:Box w B ty v) (h:Rd Br w v xs) :
    Calls Tryz.prog 184 #[.pointer (some ⟨B,0,none⟩)] w fun e w'=>e=.returned (.tuple #[])∧w'=w.setCell ⟨B,0,none⟩ (vtake v (tl xs xs.length)):=by
 have hc:=cell_of_one hbox;have hf:=free_of_one hbox;have hm:=meant_rd h;have hsh:∃ a n c,vtake v (tl xs xs.length)=.slice a n c:=by
  obtain ⟨_,a,c,rfl,_⟩:=h;exact ⟨a,_,c,rfl⟩
 obtain ⟨a,n,c,hv⟩:=hsh;rw [hv] at hm ⊢;clear h hbox hv;go_enter Tryz.func184,Tryz.ntmps184
 go_wp2_with fail
 refine (hm).mono ?_;rintro e w' ⟨rfl,rfl⟩;go_wp2
 go_end0
 exact ⟨rfl,rfl⟩
end
section
theorem mul_bound {x y:Int} (hx:0≤x∧x<4294967296) (hy:0≤y∧y<4294967296):0≤x*y∧x*y≤18446744065119617025:=by
 refine ⟨Int.mul_nonneg hx.1 hy.1,?_⟩;have h1:x*y≤4294967295*y:=Int.mul_le_mul_of_nonneg_right (by omega) hy.1;omega
theorem zeros_set (zs:List Int) (m k:Nat) (v:Int) (h:∀ j,m≤j→zs.getD j 0=0) (hk:k<m):∀ j,m≤j→(zs.set k v).getD j 0=0:=by
 intro j hj;rw [getD_set,if_neg (by omega)];exact h j hj
end
section
open Go.RowKit
theorem Own.stored {base g n cap:Nat} {w:World} {zs:List Int} (h:Own base w (.slice (some ⟨g,0,none⟩) n cap) zs) (hn:zs.length=n) (j:Nat) (u:Int) (hu:0≤u∧u<4294967296) :
    Own base (w.setCell ⟨g,j,none⟩ (.int .u32 u)) (.slice (some ⟨g,0,none⟩) n cap) (zs.set j u):=by
 subst hn;refine ⟨lim_set h.1 j u hu,?_⟩;rw [List.length_set,List.map_set];exact (h.2.stored j (.int .u32 u)).1
theorem Own.cellAt {base g n cap:Nat} {w:World} {zs:List Int} (h:Own base w (.slice (some ⟨g,0,none⟩) n cap) zs) (hn:zs.length=n) (j:Nat) (hj:j<n):w.cell? ⟨g,j,none⟩=some (.int .u32 (zs.getD j 0)):=by
 subst hn;have:=h.2.cellAt j (by omega);rw [getD_map_u32 zs j hj] at this;exact this
theorem Own.frozenAt {base g n cap:Nat} {w:World} {zs:List Int} (h:Own base w (.slice (some ⟨g,0,none⟩) n cap) zs) (hn:zs.length=n) (j:Nat):w.frozen? ⟨g,j,none⟩=false:=by
 subst hn;exact h.2.frozenAt j
theorem Own.lt {base g n cap:Nat} {w:World} {zs:List Int} (h:Own base w (.slice (some ⟨g,0,none⟩) n cap) zs) (hn:zs.length=n):g<w.heap.size:=by
 subst hn;exact (h.2.lt g rfl).2
theorem own_made {base g n:Nat} {w:World} (h:w.ownsRow base 92 1 (.slice (some ⟨g,0,none⟩) n n) n (madeCells #[Value.int .u32 0] n).toList):Own base w (.slice (some ⟨g,0,none⟩) n n) (List.replicate n 0):=by
 refine ⟨lim_replicate n,?_⟩;have e:(madeCells #[Value.int .u32 0] n).toList=(List.replicate n (0:Int)).map (Value.int .u32):=by
  rw [List.map_replicate];exact toList_madeCells_one _ _
 rw [← e,List.length_replicate];exact h
theorem grown_below {w w':World} {row:Option Nat} (h:Below w.heap.size w w'):w.grownBy w' row:=⟨h.os,h.tape,h.output,h.size,fun k hk _=>h.block k hk⟩
theorem take_succ_getD' {α:Type} (xs:List α) (k:Nat) (d:α) (h:k<xs.length):xs.take (k+1)=xs.take k++[xs.getD k d]:=by
 rw [List.take_succ_eq_append_getElem h];simp [List.getD,h]
/-- A list of slices in memory: what each reads as. -/
structure Many (w:World) (Lb k:Nat) (vs:List Value) (xss:List (List Int)):Prop where
 lv:vs.length=k
 lx:xss.length=k
 lt:Lb<w.heap.size
 cell:∀ j,j<k→w.cell? ⟨Lb,j,none⟩=some (vs.getD j (.bool false))
 rd:∀ j,j<k→Rd w.heap.size w (vs.getD j (.bool false)) (xss.getD j [])
theorem can_one:can [1]:=⟨fun x hx=>by simp at hx;omega,Or.inr (by decide)⟩
theorem zeroCells_one (z:Value) (m:Nat):Builtin.zeroCells #[z] m=(List.replicate m z).toArray:=by
 unfold Builtin.zeroCells;apply Array.ext
 · simp
 · intro i h1 h2
   simp [Nat.mod_one]
theorem run_append_own_zeros {P:Program} (w:World) (base:Nat) (t tn ty e:TypeId) (i:TypeInfo) (z:Value) (kq kn:IntKind) (ht:P.underlying t=some (.slice e)) (htn:P.underlying tn=some (.int kn)) (hi:P.info? e=some i) (hz:i.zero=some z)
    (hsize:i.size=1) (hzs:z.cells=#[z]) (hz1:z.oneCell'=true)
    (v:Value) (n:Nat) (xs:List Value) (hown:w.ownsRow base e 1 v n xs) (m:Nat) (h0:0<m)
    (h63:n+m≤maxLen) (hbytes:(n+m)*i.bytes≤140737488355328) (hbase:base≤w.heap.size) :
    ∃ g cap w',(Builtin.append_ #[t,tn] ty #[v,.int kq m]).run P w=.ok (.slice (some ⟨g,0,none⟩) (n+m) cap) w'∧w'.ownsRow base e 1 (.slice (some ⟨g,0,none⟩) (n+m) cap) (n+m) (xs++List.replicate m z)∧w.grownBy w' v.ownBlock:=by
 have hsmall:n+m≤9223372036854775807:=by simp only [maxLen] at h63;omega
 have hxl:xs.length=n:=by simpa using hown.1
 have hlen:(xs++List.replicate m z).length=(n+m)*1:=by simp [hxl]
 have hmb:m*i.bytes≤140737488355328:=Nat.le_trans (Nat.mul_le_mul_right _ (by omega)) hbytes;have grown:∀ (old:Nat) (row:Option Nat),
     (w.drew.alloc (.cells (xs.toArray++Builtin.zeroCells z.cells m++Builtin.zeroCells z.cells (grownCap w (n+m) old e - (n+m))) e)).ownsRow base e 1
      (.slice (some ⟨w.heap.size,0,none⟩) (n+m) (grownCap w (n+m) old e)) (n+m) (xs++List.replicate m z) ∧
     w.grownBy (w.drew.alloc (.cells (xs.toArray++Builtin.zeroCells z.cells m++Builtin.zeroCells z.cells (grownCap w (n+m) old e - (n+m))) e)) row:=by
  intro old row;have hge:=grownCap_ge w (n+m) old e;have hcm:grownCap w (n+m) old e≤maxLen:=grownCap_le_maxLen w (n+m) old e h63;refine ⟨⟨hlen,.inr ⟨w.heap.size,_,_,rfl,hbase,heap_alloc_new w.drew _,hge,hcm,?_,?_⟩⟩,⟨rfl,rfl,rfl,by simp,fun k hk _=>Below.heap_alloc w.drew _ k hk⟩⟩
  · simp only [hzs,zeroCells_one,Array.size_append,List.size_toArray,List.length_replicate,hxl]
    omega
  · simp only [hzs,zeroCells_one,Array.toList_append,List.append_assoc]
    rw [← List.append_assoc,← hlen];exact List.take_left
 have hk:m≠0:=by omega
 have hw:IntKind.i64.wrap (m:Int)=m:=by rw [IntKind.wrap_i64];omega
 have h48i:¬ (281474976710656<(m:Int)*(i.bytes:Int)):=by
  rw [← Int.natCast_mul];omega
 have hneg:¬ ((m:Int)<0):=by omega
 rcases hown.2 with ⟨rfl,rfl⟩ | ⟨g,cap,cur,rfl,hbg,hg,hnc,hcm,hcs,htake⟩
 · have hx:xs=[]:=List.eq_nil_of_length_eq_zero (by simpa using hown.1)
   subst hx;have hr:=Lib.run_append_nil_zeros (P:=P) w t tn ty e i z kq kn ht htn hi hz m h0 (by omega) (by omega) (by omega);have hgr:=grown 0 (Value.ownBlock (.slice none 0 0));simp only [Nat.zero_add,List.nil_append,Array.empty_append] at hgr ⊢;exact ⟨_,_,_,hr,hgr.1,hgr.2⟩
 · by_cases hroom:n+m≤cap
   · have hfit:n*1+(List.replicate m z).length≤cur.size:=by rw [hcs,List.length_replicate];omega
     have hst:=run_storeCells_at P g (n*1) e (List.replicate m z) 0 cur w hg (by simpa using hfit) (fun u hu=>by rw [List.eq_of_mem_replicate hu];exact hz1);simp only [Nat.add_zero] at hst;have hns:¬ (m*i.size=0):=by rw [hsize];omega
     have hr:(Builtin.append_ #[t,tn] ty #[.slice (some ⟨g,0,none⟩) n cap,.int kq m]).run P w =
         .ok (.slice (some ⟨g,0,none⟩) (n+m) cap) (w.setRow g (cur.toList.take (n*1)++List.replicate m z++cur.toList.drop (n*1+(List.replicate m z).length)).toArray):=by
      simp only [Nat.mul_one] at hst;simp [Builtin.append_,run_underlying ht,run_underlying htn,sizeOf,typeInfo,zeroValue,hi,hz,asInt,asIntOf,hw,hk,hneg,h48i,hroom,Addr.add_lit,hzs,zeroCells_one,hsize,hst]
     refine ⟨g,cap,_,hr,⟨hlen,.inr ⟨g,cap,_,rfl,hbg,setRow_heap w g cur _ e _ hg,hroom,hcm,?_,?_⟩⟩,⟨rfl,rfl,rfl,by simp,fun k _ hk=>setRow_other w g k _ (fun e=>hk (by simp [Value.ownBlock,e]))⟩⟩
     · simp only [List.size_toArray,List.length_append,List.length_take,List.length_drop,Array.length_toList,List.length_replicate]
       omega
     · rw [htake,← hlen]
       exact List.take_left
   · have holds:∀ j u,xs[j]? = some u→w.drew.cell? ((⟨g,0,none⟩:Addr).add j)=some u:=hown.cells (g:=g) rfl
     have hold:=run_firstCells_some (P:=P) w.drew i.size n ⟨g,0,none⟩ n cap xs (by rw [hsize];simpa using hxl) holds;have hr:=Lib.run_append_grow_zeros (P:=P) w t tn ty e i z kq kn ht htn hi hz (some ⟨g,0,none⟩) n cap xs hold m h0 (by omega) (by omega) (by omega) (by omega) (growslice_fits (by omega) hbytes);have hgr:=grown cap (Value.ownBlock (.slice (some ⟨g,0,none⟩) n cap));exact ⟨_,_,_,hr,hgr.1,hgr.2⟩
/-- A running number: its variable (block B, of type ty) holds limbs of the call's own (blocks from base on). -/
def St (base:Nat) (w:World) (B ty:Nat) (xs:List Int):Prop:=∃ a c,Box w B ty (.slice a xs.length c)∧Own base w (.slice a xs.length c) xs∧base≤B∧base≤w.heap.size
theorem own_box_ne {base B ty:Nat} {w:World} {v u:Value} {xs:List Int} (hb:Box w B ty u) (h:Own base w v xs) (hty:ty≠92):v.ownBlock≠some B:=by
 intro e;obtain ⟨_,_,h | ⟨g,cap,cur,rfl,_,hh,_⟩⟩:=h
 · rw [h.1] at e;cases e
 · have:g=B:=Option.some.inj e
   subst this;unfold Box at hb;rw [hb] at hh;exact hty (by simpa using congrArg (fun o:Option Obj=>match o with | some (.cells _ t _)=>t | _=>0) hh)
theorem box_set {B ty g:Nat} {w:World} {u:Value} (h:Box w B ty u) (hne:g≠B) (o:Nat) (x:Value):Box (w.setCell ⟨g,o,none⟩ x) B ty u:=by
 unfold Box;rw [Below.heap_setCell _ _ _ _ (fun e=>hne e.symm)];exact h
theorem can_nil:can []:=⟨lim_nil,Or.inl rfl⟩
theorem or_add (q v:Int) (hq:0≤q∧q<4294967296) (hv:0≤v∧v<4294967296):bits .or .u64 (q*4294967296) v=q*4294967296+v:=by
 obtain ⟨a,rfl⟩:=Int.eq_ofNat_of_zero_le hq.1;obtain ⟨b,rfl⟩:=Int.eq_ofNat_of_zero_le hv.1;have e:((a:Int)*4294967296)=((a*4294967296:Nat):Int):=by omega
 rw [e,bits_or_u64_nat _ _ (by omega) (by omega)];have h:a*4294967296 ||| b=a*4294967296+b:=by
  have:=Nat.two_pow_add_eq_or_of_lt (i:=32) (b:=b) (by omega) a;rw [Nat.mul_comm];exact this.symm
 rw [h];omega
/-- Nothing that was there has turned but block B and the row r. -/
structure Kept2 (w w':World) (B:Nat) (r:Option Nat):Prop where
 os:w'.os=w.os
 tape:w'.tape=w.tape
 output:w'.output=w.output
 size:w.heap.size≤w'.heap.size
 block:∀ k,k<w.heap.size→k≠B→some k≠r→w'.heap[k]? = w.heap[k]?
theorem Kept2.refl (w:World) (B:Nat) (r:Option Nat):Kept2 w w B r:=⟨rfl,rfl,rfl,Nat.le_refl _,fun _ _ _ _=>rfl⟩
theorem Kept2.drew {w w':World} {B:Nat} {r:Option Nat} (h:Kept2 w w' B r):Kept2 w w'.drew B r:=⟨h.os,h.tape,h.output,h.size,h.block⟩
theorem Kept2.setCell {w w':World} {B:Nat} {r:Option Nat} (h:Kept2 w w' B r) {p:Addr} (hp:p.block=B∨some p.block=r) (u:Value):Kept2 w (w'.setCell p u) B r:=
 ⟨h.os,h.tape,h.output,by simp [World.setCell];exact h.size,fun k hk hB hr=>by
  rw [Below.heap_setCell _ _ _ _ (fun e=>by subst e;rcases hp with hp | hp;exact hB hp;exact hr hp)];exact h.block k hk hB hr⟩
theorem Kept2.below {w w':World} {B base:Nat} {r:Option Nat} (h:Kept2 w w' B r) (hB:base≤B) (hbs:base≤w.heap.size) (hr:∀ k,r=some k→base≤k):Below base w w':=
 ⟨h.os,h.tape,h.output,h.size,fun k hk=>h.block k (by omega) (by omega) (fun e=>by have:=hr k e.symm;omega)⟩
theorem Own.drew {base:Nat} {w:World} {v:Value} {xs:List Int} (h:Own base w v xs):Own base w.drew v xs:=h
theorem Box.drew {B ty:Nat} {w:World} {v:Value} (h:Box w B ty v):Box w.drew B ty v:=h
theorem div_step (xs vs:List Int) (j:Nat) (d q t:Int) (hj:j<xs.length) (hl:vs.length=xs.length) (hd0:0<d) (ht:vs.take (j+1)=xs.take (j+1)) (h:val (xs.drop (j+1))=d*val (vs.drop (j+1))+q) (he:t=q*4294967296+vs.getD j 0) :
    (vs.set j (t/d)).take j=xs.take j∧val (xs.drop j)=d*val ((vs.set j (t/d)).drop j)+t % d:=by
 have e1:xs.drop j=xs.getD j 0 :: xs.drop (j+1):=by rw [List.drop_eq_getElem_cons hj];simp [List.getD,hj]
 have hj2:j<vs.length:=by omega
 have e2:(vs.set j (t/d)).drop j=t/d :: vs.drop (j+1):=by
  rw [List.drop_eq_getElem_cons (by simpa using hj2)];simp [List.drop_set]
 have e3:vs.getD j 0=xs.getD j 0:=by
  have h1:(vs.take (j+1)).getD j 0=vs.getD j 0:=by simp only [List.getD,List.getElem?_take];rw [if_pos (by omega)]
  have h2:(xs.take (j+1)).getD j 0=xs.getD j 0:=by simp only [List.getD,List.getElem?_take];rw [if_pos (by omega)]
  rw [← h1,← h2,ht]
 constructor
 · have h1:vs.take j=xs.take j:=by
    have:=congrArg (List.take j) ht;rw [List.take_take,List.take_take] at this;have e:min j (j+1)=j:=by omega
    rw [e] at this;exact this
   rw [List.take_set_of_le (Nat.le_refl _)];exact h1
 · have hd:d*(t/d)+t % d=t:=Int.mul_ediv_add_emod t d
   rw [e1,e2];simp only [val,h];rw [e3] at he;generalize t/d=u at *;generalize t % d=r at *;simp only [Int.mul_add,Int.mul_left_comm];omega
theorem divLimb_walk {base B ty:Nat} {w:World} {xs:List Int} (a:Option Addr) (c L:Nat) (d:Int) (hd0:0<d) (hd1:d<4294967296) (hty:ty≠92) (hxl:Hid (xs.length=L)) (hbox:Box w B ty (.slice a L c)) (hown:Own base w (.slice a L c) xs)
    (hn:L≤17592186044415) :
    Calls Tryz.prog 179 #[.pointer (some ⟨B,0,none⟩),.int .u32 d] w fun e w'=>e=.returned (.int .u32 (val xs % d))∧∃ zs,can zs∧val zs=val xs/d∧zs.length≤xs.length∧Box w' B ty (.slice a zs.length c)∧Own base w' (.slice a zs.length c) zs∧Kept2 w w' B (Value.slice a L c).ownBlock:=by
 have hc:=cell_of_one hbox;have hf:=free_of_one hbox;have lx:=hown.lim;go_enter Tryz.func179,Tryz.ntmps179;go_wp2
 go_loopw [6,5] (fun s r wr=>∃ (j:Nat) (q:Int) (vs:List Int),j≤L∧s=.int .i64 ((j:Int) - 1)∧r=.int .u64 q∧0≤q∧q<d∧Hid (vs.length=L)∧Own base wr (.slice a L c) vs∧Box wr B ty (.slice a L c)∧Kept2 w wr B (Value.slice a L c).ownBlock∧Hid (vs.take j=xs.take j)∧Hid (val (xs.drop j)=d*val (vs.drop j)+q))
  (fun s _ _=>(intOf s+1).toNat)
 case atStart=>exact ⟨L,0,xs,Nat.le_refl _,by go_num,rfl,by omega,hd0,hxl,hown,hbox,Kept2.refl _ _ _,rfl,by unfold Hid;rw [List.drop_of_length_le (by rw [hxl.out];omega)];simp [val]⟩
 case round=>
  obtain ⟨j,q,vs,hjL,rfl,rfl,hq0,hq1,hvl,hown3,hbox3,hbl3,htake,hval3⟩:=hrel;have hc3:=cell_of_one hbox3;clear hc hf hbox hown;have hsz3:=hbl3.size
  cases j with
  | zero=>
   have hvl':=hvl.out;have hrd:=hown3.rd;have hx0:val xs=d*val vs+q:=hval3.out;have HX0:Hid (val xs=d*val vs+q):=hx0;clear hvl' hx0
   go_wp2_with fail
   refine (trimM_any hbox3 hrd).mono ?_;rintro e w2 ⟨rfl,rfl⟩;go_wp2
   go_ret
   have hM:=hown3.meant;have hv5:vtake (.slice a L c) (tl vs vs.length)=.slice a (tr vs).length c:=by rw [tr_length];rfl
   rw [hv5] at hM ⊢;have hvq:val vs=val xs/d∧q=val xs % d:=by
    rw [HX0.out];exact ⟨(by rw [Int.add_comm,Int.add_mul_ediv_left _ _ (by omega),Int.ediv_eq_zero_of_lt hq0 hq1];simp),(by rw [Int.add_comm,Int.add_mul_emod_self_left,Int.emod_eq_of_lt hq0 hq1])⟩
   refine ⟨ret_int hvq.2,tr vs,tr_can hown3.lim,by rw [val_tr];exact hvq.1,?_,one_setCell hbox3,hM.setCell (own_box_ne hbox3 hM hty) _,hbl3.setCell (Or.inl rfl) _⟩;have h1:=tr_length_le vs;have h2:=hvl.out;have h3:=hxl.out;omega
  | succ j=>
   rcases hown3.shape with ⟨hnil,hnil2⟩ | ⟨g,cap,hv,hgb,hgs,_,_⟩
   · have:=hvl.out;rw [hnil2] at this;simp at this;omega
   have ha2:a=some ⟨g,0,none⟩:=by
    have:=congrArg (fun v:Value=>match v with | .slice a _ _=>a | _=>none) hv
    exact this
   clear hv;subst ha2;have hcv:=hown3.cellAt hvl.out j (by omega);have hfv:=hown3.frozenAt hvl.out j;have rv:=lim_getD hown3.lim j;have hneB:=own_box_ne hbox3 hown3 hty;have hneB':g≠B:=fun e=>hneB (by rw [e];rfl);generalize hV:vs.getD j 0=V at *;have HV:Hid (vs.getD j 0=V):=hV;clear hV;have ej:((j+1:Nat):Int) - 1=(j:Int):=by omega
   rw [ej];clear ej;have hor:=or_add q V (by omega) rv;have hT0:0≤q*4294967296+V:=by omega
   have hT1:q*4294967296+V<18446744073709551616:=by omega
   have hT2:(q*4294967296+V)/d<4294967296:=Int.ediv_lt_of_lt_mul hd0 (by
    have h1:(q+1)*4294967296≤d*4294967296:=Int.mul_le_mul_of_nonneg_right (by omega) (by omega);rw [Int.mul_comm 4294967296];omega)
   have hT3:0≤(q*4294967296+V)/d:=Int.ediv_nonneg hT0 (by omega);have hT4:0≤(q*4294967296+V) % d:=Int.emod_nonneg _ (by omega);have hT5:(q*4294967296+V) % d<d:=Int.emod_lt_of_pos _ hd0;have hdne:(d==0)=false:=by simp;omega
   have hS:=hown3.stored hvl.out j ((q*4294967296+V)/d) ⟨hT3,hT2⟩;have hst:=div_step xs vs j d q (q*4294967296+V) (by rw [hxl.out];omega) (by rw [hxl.out,hvl.out]) hd0 htake.out hval3.out (by rw [HV.out]);have HST:Hid ((vs.set j ((q*4294967296+V)/d)).take j=xs.take j∧val (xs.drop j)=d*val ((vs.set j ((q*4294967296+V)/d)).drop j)+(q*4294967296+V) % d):=hst;clear hst;go_wp2
   go_region
   go_wp2
   go_roundw
   case rel=>exact ⟨j,(q*4294967296+V) % d,vs.set j ((q*4294967296+V)/d),by omega,by go_num,rfl,hT4,hT5,(by unfold Hid;rw [List.length_set];exact hvl.out),hS.drew,(box_set hbox3 hneB' _ _).drew,(hbl3.setCell (p:=⟨g,j,none⟩) (Or.inr rfl) _).drew,HST.out.1,HST.out.2⟩
   case measure=>simp [intOf]
theorem begin_any {B:Nat} {w:World} {v:Value} {xs:List Int} (h:Rd B w v xs) (hB:B≤w.heap.size) (hsz:xs.length*4≤140737488355328) :
    Calls Tryz.prog 187 #[v] w fun e w'=>BoxMakes w e w' (tr xs):=by
 have hr:Rd B (w.alloc (.cells #[.slice none 0 0] 161)) v xs:=h.below ((Below.refl _ _).alloc hB _);go_enter Tryz.func187,Tryz.ntmps187
 go_wp2_with fail
 refine (trim_rd hr hsz).mono ?_;intro e w1 hm;obtain ⟨a,c,rfl,ho,hb⟩:=hm;have hz:w.heap.size<w1.heap.size:=by have:=hb.size;simp at this;omega
 have hbx:Box w1 w.heap.size 161 (.slice none 0 0):=by unfold Box;rw [hb.block _ (by simp)];exact heap_alloc_new _ _
 have hc:=cell_of_one hbx;have hf:=free_of_one hbx;have hs:∀ u,(w1.setCell ⟨w.heap.size,0,none⟩ u).cell? ⟨w.heap.size,0,none⟩=some u:=fun u=>cell_of_one (one_setCell (u:=u) hbx);generalize hN:(tr xs).length=N at *;have HN:Hid ((tr xs).length=N):=hN;clear hN hbx;go_wp2
 refine bodyPost_ret (v:=.agg #[.slice a N c]) (by simp [results,Tryz.results187,go_sem,hz,hs]) rfl ?_;obtain rfl:=HN.out;exact ⟨a,c,rfl,((ho.mono (by simp)).setCell (ownBlock_ne ho (by simp)) _),(((Below.refl _ w).alloc (Nat.le_refl _) _).trans (hb.mono (by simp))).setCell (Nat.le_refl _) _⟩
theorem of_limb (r:Int) (h0:0≤r) (h1:r<4294967296):val (tr [r % 4294967296,r/4294967296])=r∧can (tr [r % 4294967296,r/4294967296])∧(tr [r % 4294967296,r/4294967296]).length≤1:=by
 have hl:lim [r % 4294967296,r/4294967296]:=by
  intro x hx;simp at hx;omega
 refine ⟨by rw [val_tr];simp only [val];omega,tr_can hl,?_⟩;rw [tr_length];have e:r/4294967296=0:=by omega
 show tl [r % 4294967296,r/4294967296] (1+1)≤1;rw [tl_zero _ _ (by simpa using e)];exact tl_le _ _
theorem below_drewN' {B:Nat} {a w:World} (h:Below B a w) (n:Nat):Below B a (w.drewN n):=h.trans ⟨rfl,rfl,rfl,Nat.le_refl _,fun _ _=>rfl⟩
end
end Go.Proofs.YtheaeggecpfcbaaGreat
