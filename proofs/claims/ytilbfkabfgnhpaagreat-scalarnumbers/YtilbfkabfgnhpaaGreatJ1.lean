/- Plain facts on lists of limbs: what noughts at the end are, what number limbs say. No program is named. -/
import Derived.Test.YtilbfkabfgnhpaaGreatProg
import Derived.WalkKit
import Derived.WalkLawsBesides
import Derived.Deep.QuietTactic
import Derived.BigQuiet
import Derived.Laws.AppendOwnNone
import Derived.Lib.AppendZerosOnto
import Derived.Deep.RegionLaw
import Derived.Deep.DeepCutAuto
import Derived.Deep.RegionWith
set_option maxRecDepth 100000
set_option maxHeartbeats 1600000
set_option linter.unusedVariables false
set_option linter.unusedSimpArgs false
namespace Go.Proofs.YtilbfkabfgnhpaaGreat
section
/-- How many of the first k limbs are left without noughts at the end. -/
def tl (xs:List Int):Nat→Nat
 | 0=>0
 | k+1=>if xs.getD k 0=0 then tl xs k else k+1
theorem tl_le (xs:List Int) (k:Nat):tl xs k≤k:=by
 induction k with
 | zero=>exact Nat.le_refl _
 | succ k ih=>unfold tl;split <;> omega
theorem tl_zero (xs:List Int) (k:Nat) (h:xs.getD k 0=0):tl xs (k+1)=tl xs k:=by rw [tl,if_pos h]
theorem tl_pos (xs:List Int) (k:Nat) (h:¬ xs.getD k 0=0):tl xs (k+1)=k+1:=by rw [tl,if_neg h]
/-- Limbs without noughts at the end. -/
def tr (xs:List Int):List Int:=xs.take (tl xs xs.length)
theorem tr_length (xs:List Int):(tr xs).length=tl xs xs.length:=by
 unfold tr;rw [List.length_take];have:=tl_le xs xs.length;omega
theorem tr_length_le (xs:List Int):(tr xs).length≤xs.length:=by rw [tr_length];exact tl_le _ _
/-- A limb's powers. -/
def pw (k:Nat):Int:=4294967296 ^ k
theorem pw_zero:pw 0=1:=rfl
theorem pw_succ (k:Nat):pw (k+1)=4294967296*pw k:=by unfold pw;rw [Int.pow_succ,Int.mul_comm]
theorem pw_pos (k:Nat):0<pw k:=by
 induction k with
 | zero=>decide
 | succ k ih=>rw [pw_succ];omega
theorem pw_add (j k:Nat):pw (j+k)=pw j*pw k:=by unfold pw;rw [Int.pow_add]
theorem pw_mono {j k:Nat} (h:j≤k):pw j≤pw k:=by
 induction h with
 | refl=>exact Int.le_refl _
 | step _ ih=>rw [pw_succ];have:=pw_pos j;omega
/-- The number that limbs say, the lowest first. -/
def val:List Int→Int
 | []=>0
 | x :: xs=>x+4294967296*val xs
/-- Each one a limb. -/
def lim (xs:List Int):Prop:=∀ x∈xs,0≤x∧x<4294967296
theorem lim_nil:lim []:=fun _ h=>by cases h
theorem lim_cons {x:Int} {xs:List Int}:lim (x :: xs)↔(0≤x∧x<4294967296)∧lim xs:=by
 unfold lim;simp
theorem lim_append {xs ys:List Int}:lim (xs++ys)↔lim xs∧lim ys:=by
 unfold lim;constructor
 · intro h;exact ⟨fun x hx=>h x (by simp [hx]),fun x hx=>h x (by simp [hx])⟩
 · intro h x hx
   rcases List.mem_append.1 hx with hx | hx
   · exact h.1 x hx
   · exact h.2 x hx
theorem lim_take {xs:List Int} (h:lim xs) (k:Nat):lim (xs.take k):=fun x hx=>h x (List.mem_of_mem_take hx)
theorem lim_drop {xs:List Int} (h:lim xs) (k:Nat):lim (xs.drop k):=fun x hx=>h x (List.mem_of_mem_drop hx)
theorem lim_replicate (n:Nat):lim (List.replicate n 0):=fun x hx=>by
 have:=List.eq_of_mem_replicate hx;omega
theorem lim_getD {xs:List Int} (h:lim xs) (k:Nat):0≤xs.getD k 0∧xs.getD k 0<4294967296:=by
 by_cases hk:k<xs.length
 · have e:xs.getD k 0=xs[k]:=by simp [List.getD,hk]
   rw [e];exact h _ (List.getElem_mem hk)
 · have e:xs.getD k 0=0:=by simp [List.getD,List.getElem?_eq_none (Nat.le_of_not_lt hk)]
   rw [e];omega
theorem lim_set {xs:List Int} (h:lim xs) (k:Nat) (v:Int) (hv:0≤v∧v<4294967296):lim (xs.set k v):=fun x hx=>by
 rcases List.mem_or_eq_of_mem_set hx with hx | hx
 · exact h x hx
 · rw [hx];exact hv
theorem val_append (xs ys:List Int):val (xs++ys)=val xs+pw xs.length*val ys:=by
 induction xs with
 | nil=>simp [val,pw_zero]
 | cons x xs ih=>
  simp only [List.cons_append,val,ih,List.length_cons,pw_succ,Int.mul_add,Int.mul_assoc];omega
theorem val_split (xs:List Int) (k:Nat) (h:k≤xs.length):val xs=val (xs.take k)+pw k*val (xs.drop k):=by
 have e:=val_append (xs.take k) (xs.drop k);rw [List.take_append_drop] at e;have l:(xs.take k).length=k:=by simp;omega
 rw [l] at e;exact e
theorem val_bound {xs:List Int} (h:lim xs):0≤val xs∧val xs<pw xs.length:=by
 induction xs with
 | nil=>simp [val,pw_zero]
 | cons x xs ih=>
  rw [lim_cons] at h;have:=ih h.2;simp only [val,List.length_cons,pw_succ];omega
theorem val_replicate (n:Nat):val (List.replicate n 0)=0:=by
 induction n with
 | zero=>rfl
 | succ n ih=>rw [List.replicate_succ,val,ih];rfl
theorem val_set (xs:List Int) (k:Nat) (v:Int) (h:k<xs.length):val (xs.set k v)=val xs+(v - xs.getD k 0)*pw k:=by
 induction xs generalizing k with
 | nil=>simp at h
 | cons x xs ih=>
  cases k with
  | zero=>simp [val,pw_zero];omega
  | succ k=>
   have:=ih k (by simpa using h);simp only [List.set_cons_succ,val,this,List.getD_cons_succ,pw_succ,Int.mul_add];rw [Int.mul_left_comm];omega
theorem getD_set (xs:List Int) (k j:Nat) (v:Int):(xs.set k v).getD j 0=if k=j∧k<xs.length then v else xs.getD j 0:=by
 simp only [List.getD,List.getElem?_set];by_cases h:k=j
 · subst h
   by_cases h2:k<xs.length
   · simp [h2]
   · simp [h2,List.getElem?_eq_none (Nat.le_of_not_lt h2)]
 · simp [h]
theorem take_succ_getD (xs:List Int) (k:Nat) (h:k<xs.length):xs.take (k+1)=xs.take k++[xs.getD k 0]:=by
 rw [List.take_succ_eq_append_getElem h];simp [List.getD,h]
theorem val_take_succ (xs:List Int) (k:Nat) (h:k<xs.length):val (xs.take (k+1))=val (xs.take k)+xs.getD k 0*pw k:=by
 rw [take_succ_getD xs k h,val_append];have e:(xs.take k).length=k:=by simp;omega
 rw [e];simp only [val];rw [Int.mul_comm (pw k)];simp
theorem val_take_tl (xs:List Int) (k:Nat) (h:k≤xs.length):val (xs.take (tl xs k))=val (xs.take k):=by
 induction k with
 | zero=>rfl
 | succ k ih=>
  by_cases h0:xs.getD k 0=0
  · rw [tl_zero xs k h0,ih (by omega),val_take_succ xs k h,h0];simp
  · rw [tl_pos xs k h0]
theorem val_tr (xs:List Int):val (tr xs)=val xs:=by
 unfold tr;rw [val_take_tl xs _ (Nat.le_refl _),List.take_length]
/-- Right limbs: no nought at the end. -/
def can (xs:List Int):Prop:=lim xs∧(xs.length=0∨¬ xs.getD (xs.length - 1) 0=0)
theorem tl_last (xs:List Int) (k:Nat):tl xs k=0∨¬ xs.getD (tl xs k - 1) 0=0:=by
 induction k with
 | zero=>exact Or.inl rfl
 | succ k ih=>
  by_cases h0:xs.getD k 0=0
  · rw [tl_zero xs k h0];exact ih
  · rw [tl_pos xs k h0];exact Or.inr (by simpa using h0)
theorem tr_can {xs:List Int} (h:lim xs):can (tr xs):=by
 refine ⟨lim_take h _,?_⟩;rw [tr_length];rcases tl_last xs xs.length with h | h
 · exact Or.inl h
 · by_cases h0:tl xs xs.length=0
   · exact Or.inl h0
   · refine Or.inr ?_
     unfold tr;have e:(xs.take (tl xs xs.length)).getD (tl xs xs.length - 1) 0=xs.getD (tl xs xs.length - 1) 0:=by
      simp only [List.getD,List.getElem?_take];rw [if_pos (by omega)]
     rw [e];exact h
theorem can_low {xs:List Int} (h:can xs) (h0:0<xs.length):pw (xs.length - 1)≤val xs:=by
 obtain ⟨k,hk⟩:∃ k,xs.length=k+1:=⟨xs.length - 1,by omega⟩;have e:xs=xs.take (k+1):=by rw [← hk,List.take_length]
 have h1:val xs=val (xs.take k)+xs.getD k 0*pw k:=by rw [← val_take_succ xs k (by omega),← e]
 have h2:=(val_bound (lim_take h.1 k)).1;have h3:=lim_getD h.1 k;have h4:¬ xs.getD k 0=0:=by
  rcases h.2 with h | h
  · omega
  · rw [hk] at h;simpa using h
 have h5:1*pw k≤xs.getD k 0*pw k:=Int.mul_le_mul_of_nonneg_right (by omega) (Int.le_of_lt (pw_pos k));rw [hk];simp only [Nat.add_sub_cancel];omega
theorem val_inj_len {xs ys:List Int} (hx:lim xs) (hy:lim ys) (hl:xs.length=ys.length) (h:val xs=val ys):xs=ys:=by
 induction xs generalizing ys with
 | nil=>cases ys with
  | nil=>rfl
  | cons=>simp at hl
 | cons x xs ih=>cases ys with
  | nil=>simp at hl
  | cons y ys=>
   rw [lim_cons] at hx hy;simp only [val] at h;have h1:x=y:=by omega
   have h2:val xs=val ys:=by omega
   rw [h1,ih hx.2 hy.2 (by simpa using hl) h2]
theorem can_len_lt {xs ys:List Int} (hx:can xs) (hy:can ys) (h:xs.length<ys.length):val xs<val ys:=by
 have h1:=(val_bound hx.1).2;have h2:=can_low hy (by omega);have h3:=pw_mono (j:=xs.length) (k:=ys.length - 1) (by omega);omega
theorem can_inj {xs ys:List Int} (hx:can xs) (hy:can ys) (h:val xs=val ys):xs=ys:=by
 refine val_inj_len hx.1 hy.1 ?_ h;rcases Nat.lt_trichotomy xs.length ys.length with hl | hl | hl
 · have:=can_len_lt hx hy hl;omega
 · exact hl
 · have:=can_len_lt hy hx hl;omega
theorem can_zero {xs:List Int} (h:can xs):xs.length=0↔val xs=0:=by
 constructor
 · intro h0
   have e:xs=[]:=List.eq_nil_of_length_eq_zero h0;rw [e];rfl
 · intro h0
   by_cases h1:0<xs.length
   · have:=can_low h h1;have:=pw_pos (xs.length - 1);omega
   · omega
/-- Limbs from place k on, compared from the top: what is below decides nothing. -/
theorem val_lt_top {xs ys:List Int} (hx:lim xs) (hy:lim ys) (hl:xs.length=ys.length) (k:Nat) (hk:k<xs.length) (hd:xs.drop (k+1)=ys.drop (k+1)) (h:xs.getD k 0<ys.getD k 0):val xs<val ys:=by
 have ex:=val_split xs (k+1) (by omega);have ey:=val_split ys (k+1) (by omega);rw [hd] at ex;have bx:=val_bound (lim_take hx k);have by':=val_bound (lim_take hy k);have lk:(xs.take k).length=k:=by simp;omega
 rw [lk] at bx;rw [ex,ey,val_take_succ xs k hk,val_take_succ ys k (by omega)];have h5:(xs.getD k 0+1)*pw k≤ys.getD k 0*pw k:=Int.mul_le_mul_of_nonneg_right (by omega) (Int.le_of_lt (pw_pos k));rw [Int.add_mul,Int.one_mul] at h5;omega
theorem drop_eq_step (xs ys:List Int) (k:Nat) (hx:k<xs.length) (hy:k<ys.length) (hd:xs.drop (k+1)=ys.drop (k+1)) (h:xs.getD k 0=ys.getD k 0):xs.drop k=ys.drop k:=by
 have e1:xs.drop k=xs.getD k 0 :: xs.drop (k+1):=by rw [List.drop_eq_getElem_cons hx];simp [List.getD,hx]
 have e2:ys.drop k=ys.getD k 0 :: ys.drop (k+1):=by rw [List.drop_eq_getElem_cons hy];simp [List.getD,hy]
 rw [e1,e2,hd,h]
/-- Which of two is greater, as Go's answers say it. -/
def cmpI (a b:Int):Int:=if a<b then -1 else if a=b then 0 else 1
theorem cmpI_lt {a b:Int} (h:a<b):cmpI a b = -1:=by unfold cmpI;rw [if_pos h]
theorem cmpI_eq {a b:Int} (h:a=b):cmpI a b=0:=by unfold cmpI;rw [if_neg (by omega),if_pos h]
theorem cmpI_gt {a b:Int} (h:b<a):cmpI a b=1:=by unfold cmpI;rw [if_neg (by omega),if_neg (by omega)]
end
section
open Go.RowKit
def lenOf:Value→Nat | .slice _ n _=>n | _=>0
/-- A slice cut at its k-th element. -/
def vtake:Value→Nat→Value | .slice a _ c,k=>.slice a k c | v,_=>v
theorem ret_len {a:Option Addr} {c m n:Nat} (h:m=n):Ending.returned (.slice a m c)=.returned (.slice a n c):=by rw [h]
theorem ret_int {k:IntKind} {a b:Int} (h:a=b):Ending.returned (.int k a)=.returned (.int k b):=by rw [h]
theorem ret_bool {a b:Bool} (h:a=b):Ending.returned (.bool a)=.returned (.bool b):=by rw [h]
/-- v reads as the limbs xs; its memory lies below block B. -/
def Rd (B:Nat) (w:World) (v:Value) (xs:List Int):Prop:=
 lim xs∧∃ a cap,v=.slice a xs.length cap∧xs.length≤cap∧cap≤9223372036854775807∧(a=none→cap=0) ∧
  (xs.length=0∨∃ b off,a=some ⟨b,off,none⟩∧b<B∧∀ j,j<xs.length→w.cell? ⟨b,off+j,none⟩=some (.int .u32 (xs.getD j 0)))
theorem Rd.lim {B:Nat} {w:World} {v:Value} {xs:List Int} (h:Rd B w v xs):lim xs:=h.1
theorem Rd.below {B:Nat} {w w':World} {v:Value} {xs:List Int} (h:Rd B w v xs) (hb:Below B w w'):Rd B w' v xs:=by
 obtain ⟨hl,a,cap,hv,h1,h2,hn,h3⟩:=h;refine ⟨hl,a,cap,hv,h1,h2,hn,?_⟩;rcases h3 with h3 | ⟨b,off,ha,hbB,hc⟩
 · exact Or.inl h3
 · exact Or.inr ⟨b,off,ha,hbB,fun j hj=>(hb.cell (p:=⟨b,off+j,none⟩) hbB).trans (hc j hj)⟩
theorem Rd.mono {B B':Nat} {w:World} {v:Value} {xs:List Int} (h:Rd B w v xs) (hB:B≤B'):Rd B' w v xs:=by
 obtain ⟨hl,a,cap,hv,h1,h2,hn,h3⟩:=h;refine ⟨hl,a,cap,hv,h1,h2,hn,?_⟩;rcases h3 with h3 | ⟨b,off,ha,hbB,hc⟩
 · exact Or.inl h3
 · exact Or.inr ⟨b,off,ha,by omega,hc⟩
theorem Rd.take {B:Nat} {w:World} {v:Value} {xs:List Int} (h:Rd B w v xs) (k:Nat) (hk:k≤xs.length):Rd B w (vtake v k) (xs.take k):=by
 obtain ⟨hl,a,cap,hv,h1,h2,hn,h3⟩:=h;have e:(xs.take k).length=k:=by simp;omega
 refine ⟨lim_take hl k,a,cap,by rw [hv,e];rfl,by omega,h2,hn,?_⟩;rcases h3 with h3 | ⟨b,off,ha,hbB,hc⟩
 · exact Or.inl (by omega)
 · refine Or.inr ⟨b,off,ha,hbB,fun j hj => ?_⟩
   rw [hc j (by omega)];have:(xs.take k).getD j 0=xs.getD j 0:=by simp only [List.getD,List.getElem?_take];rw [if_pos (by omega)]
   rw [this]
/-- v is nil, or the head of a row of the call's own (blocks from 'base' on) that holds the limbs xs. -/
def Own (base:Nat) (w:World) (v:Value) (xs:List Int):Prop:=lim xs∧w.ownsRow base 100 1 v xs.length (xs.map (Value.int .u32))
theorem Own.lim {B:Nat} {w:World} {v:Value} {xs:List Int} (h:Own B w v xs):lim xs:=h.1
theorem getD_map_u32 (xs:List Int) (j:Nat) (h:j<xs.length):(xs.map (Value.int .u32))[j]? = some (.int .u32 (xs.getD j 0)):=by
 simp [List.getD,h]
theorem Own.shape {base:Nat} {w:World} {v:Value} {xs:List Int} (h:Own base w v xs) :
    (v=.slice none 0 0∧xs=[])∨∃ g cap,v=.slice (some ⟨g,0,none⟩) xs.length cap∧base≤g∧g<w.heap.size∧xs.length≤cap∧cap≤9223372036854775807:=by
 obtain ⟨_,_,h | ⟨g,cap,cur,hv,hg,hh,h1,h2,_,_⟩⟩:=h
 · exact Or.inl ⟨h.1,List.eq_nil_of_length_eq_zero h.2⟩
 · exact Or.inr ⟨g,cap,hv,hg,lt_of_block hh,h1,by unfold maxLen at h2;omega⟩
theorem Own.rd {base:Nat} {w:World} {v:Value} {xs:List Int} (h:Own base w v xs):Rd w.heap.size w v xs:=by
 have hsh:=h.shape;obtain ⟨hl,hrow⟩:=h;rcases hsh with ⟨rfl,rfl⟩ | ⟨g,cap,rfl,hg,hlt,h1,h2⟩
 · exact ⟨hl,none,0,rfl,Nat.le_refl _,by omega,fun _=>rfl,Or.inl rfl⟩
 · refine ⟨hl,_,cap,rfl,h1,h2,(fun h=>by cases h),Or.inr ⟨g,0,rfl,hlt,fun j hj => ?_⟩⟩
   have:=hrow.cellAt j (by omega);rw [getD_map_u32 xs j hj] at this;rw [Nat.zero_add];exact this
theorem Own.mono {base base':Nat} {w:World} {v:Value} {xs:List Int} (h:Own base w v xs) (hB:base'≤base):Own base' w v xs:=by
 obtain ⟨hl,h1,h | ⟨g,cap,cur,hv,hg,r⟩⟩:=h
 · exact ⟨hl,h1,Or.inl h⟩
 · exact ⟨hl,h1,Or.inr ⟨g,cap,cur,hv,by omega,r⟩⟩
/-- Behind new memory alone it is owned as it was. -/
theorem Own.below {base B:Nat} {w w':World} {v:Value} {xs:List Int} (h:Own base w v xs) (hb:Below B w w') (hB:w.heap.size≤B):Own base w' v xs:=by
 obtain ⟨hl,h1,h | ⟨g,cap,cur,hv,hg,hh,r⟩⟩:=h
 · exact ⟨hl,h1,Or.inl h⟩
 · exact ⟨hl,h1,Or.inr ⟨g,cap,cur,hv,hg,by rw [hb.block g (Nat.lt_of_lt_of_le (lt_of_block hh) hB)];exact hh,r⟩⟩
theorem Own.alloc {base:Nat} {w:World} {v:Value} {xs:List Int} (h:Own base w v xs) (o:Obj):Own base (w.alloc o) v xs:=⟨h.1,h.2.alloc o⟩
theorem Own.setCell {base:Nat} {w:World} {v:Value} {xs:List Int} (h:Own base w v xs) {a:Addr} (ha:v.ownBlock≠some a.block) (u:Value):Own base (w.setCell a u) v xs:=⟨h.1,ownsRow_setCell_other h.2 ha u⟩
theorem Own.take {base:Nat} {w:World} {v:Value} {xs:List Int} (h:Own base w v xs) (k:Nat) (hk:k≤xs.length):Own base w (vtake v k) (xs.take k):=by
 have e:(xs.take k).length=k:=by simp;omega
 obtain ⟨hl,h1,h | ⟨g,cap,cur,hv,hg,hh,h2,h3,h4,h5⟩⟩:=h
 · have:xs=[]:=List.eq_nil_of_length_eq_zero h.2
   subst this;have hk0:k=0:=by simpa using hk
   subst hk0;rw [h.1];exact ⟨lim_take hl 0,by simp,Or.inl ⟨rfl,rfl⟩⟩
 · refine ⟨lim_take hl k,by simp,Or.inr ⟨g,cap,cur,by rw [hv,e];rfl,hg,hh,by omega,h3,h4,?_⟩⟩
   rw [e,List.map_take,← h5,List.take_take]
   congr 1
   omega
theorem meant_some (b off n cap:Nat) (xs:List Int) (w:World) (hx:xs.length=n) (hnc:n≤cap) (hbig:cap≤9223372036854775807)
    (hc:∀ j,j<n→w.cell? ⟨b,off+j,none⟩=some (.int .u32 (xs.getD j 0))) :
    Calls Tryz.prog 123 #[.slice (some ⟨b,off,none⟩) n cap] w fun e w'=>e=.returned (.slice (some ⟨b,off,none⟩) (tl xs n) cap)∧w=w':=by
 go_enter Tryz.func123,Tryz.ntmps123;go_wp2
 go_loop [0] (fun v=>∃ k:Nat,k≤n∧v=.slice (some ⟨b,off,none⟩) k cap∧Hid (tl xs k=tl xs n)) (fun v=>lenOf v)
 case atStart=>exact ⟨n,Nat.le_refl _,rfl,rfl⟩
 case round=>
  obtain ⟨k,hk,rfl,ht⟩:=hrel
  cases k with
  | zero=>
   go_wp2
   go_ret
   exact ⟨ret_len ht.out,rfl⟩
  | succ k=>
   have hcell:=hc k (by omega);by_cases h0:xs.getD k 0=0
   · rw [h0] at hcell
     clear hc;go_wp2
     go_round
     case rel=>exact ⟨k,by omega,by go_num,by unfold Hid;rw [← ht.out,tl_zero xs k h0]⟩
     case measure=>simp [lenOf]
   · have hne:(xs.getD k 0==0)=false:=by simpa using h0
     generalize hg:xs.getD k 0=g at *;have HG:Hid (xs.getD k 0=g):=hg;clear hg hc;go_wp2
     go_ret
     exact ⟨ret_len (by rw [← ht.out,tl_pos xs k (by rw [HG.out];exact h0)]),rfl⟩
theorem meant_empty (a:Option Addr) (cap:Nat) (w:World) :
    Calls Tryz.prog 123 #[.slice a 0 cap] w fun e w'=>e=.returned (.slice a 0 cap)∧w=w':=by
 go_enter Tryz.func123,Tryz.ntmps123;go_wp2
 refine wp_loop_rounds 1 ?_;rw [rounds_succ];go_wp2
 go_ret
 exact ⟨rfl,rfl⟩
/-- nat.meant at whatever slice of limbs. -/
theorem meant_rd {B:Nat} {w:World} {v:Value} {xs:List Int} (h:Rd B w v xs) :
    Calls Tryz.prog 123 #[v] w fun e w'=>e=.returned (vtake v (tl xs xs.length))∧w=w':=by
 obtain ⟨hl,a,cap,rfl,h1,h2,hn,h3⟩:=h;rcases h3 with h3 | ⟨b,off,rfl,hbB,hc⟩
 · have e:xs=[]:=List.eq_nil_of_length_eq_zero h3
   subst e;exact meant_empty a cap w
 · exact meant_some b off xs.length cap xs w rfl h1 h2 hc
theorem Rd.meant {B:Nat} {w:World} {v:Value} {xs:List Int} (h:Rd B w v xs):Rd B w (vtake v (tl xs xs.length)) (tr xs):=h.take _ (tl_le _ _)
theorem Own.meant {B:Nat} {w:World} {v:Value} {xs:List Int} (h:Own B w v xs):Own B w (vtake v (tl xs xs.length)) (tr xs):=h.take _ (tl_le _ _)
def Says1 (P:Program) (f:Nat) (v:Value) (w:World) (r:Value):Prop:=Calls P f #[v] w fun e w'=>e=.returned r∧w=w'
theorem quiet_add {P:Program} {f:FuncId} {args:Array Value} {w:World} {n m:Nat} {v:Value} (h:Calls P f args (w.drewN (n+m)) fun e w'=>e=.returned v∧w'=w.drewN (n+m)) :
    Calls P f args (w.drewN (n+m)) fun e w''=>e=.returned v∧∃ k,w''=w.drewN (n+k):=h.mono fun _ _ ⟨he,hm⟩=>⟨he,m,hm⟩
theorem drew3 (w:World) (a b c:Nat):((w.drewN a).drewN b).drewN c=w.drewN (a+b+c):=by rw [World.drewN_drewN,World.drewN_drewN,Nat.add_assoc]
theorem order_yes (w:World):Calls Tryz.prog 154 #[.bool true] w fun e w'=>e=.returned (.int .i64 (-1))∧w'=w:=by
 go_enter Tryz.func154,Tryz.ntmps154;go_wp2
 go_ret
 exact ⟨rfl,rfl⟩
theorem order_no (w:World):Calls Tryz.prog 154 #[.bool false] w fun e w'=>e=.returned (.int .i64 1)∧w'=w:=by
 go_enter Tryz.func154,Tryz.ntmps154;go_wp2
 go_ret
 exact ⟨rfl,rfl⟩
theorem compare_len (v1 v2:Value) (a1 a2:Option Addr) (l1 c1 l2 c2:Nat) (w:World) (b1:l1≤9223372036854775807) (b2:l2≤9223372036854775807)
    (h1:Says1 Tryz.prog 123 v1 w (.slice a1 l1 c1)) (h2:Says1 Tryz.prog 123 v2 w (.slice a2 l2 c2)) (hlt:¬ l1=l2) :
    Calls Tryz.prog 118 #[v1,v2] w fun e w'=>e=.returned (.int .i64 (if l1<l2 then -1 else 1))∧w=w':=by
 have t0:(((l1:Nat):Int) != ((l2:Nat):Int))=true:=by rw [bne_iff_ne];omega
 by_cases h:l1<l2
 all_goals
  have t1:=h;go_enter Tryz.func118,Tryz.ntmps118
  go_wp2_with fail
  refine (h1).mono ?_;rintro e w' ⟨rfl,rfl⟩
  go_wp2_with fail
  refine (h2).mono ?_;rintro e w' ⟨rfl,rfl⟩;go_wp2
  go_ret
  first | exact ⟨by rw [if_pos h],rfl⟩ | exact ⟨by rw [if_neg h],rfl⟩ | (simp [h];done)
theorem compare_none (v1 v2:Value) (a1 a2:Option Addr) (c1 c2:Nat) (w:World)
    (h1:Says1 Tryz.prog 123 v1 w (.slice a1 0 c1)) (h2:Says1 Tryz.prog 123 v2 w (.slice a2 0 c2)) :
    Calls Tryz.prog 118 #[v1,v2] w fun e w'=>e=.returned (.int .i64 0)∧w=w':=by
 go_enter Tryz.func118,Tryz.ntmps118
 go_wp2_with fail
 refine (h1).mono ?_;rintro e w' ⟨rfl,rfl⟩
 go_wp2_with fail
 refine (h2).mono ?_;rintro e w' ⟨rfl,rfl⟩;go_wp2
 refine wp_loop_rounds 1 ?_;rw [rounds_succ];go_wp2
 go_ret
 exact ⟨rfl,rfl⟩
theorem compare_walk (v1 v2:Value) (b1 o1 c1 b2 o2 c2 l:Nat) (xs ys:List Int) (w:World) (hb:l+1≤9223372036854775807) (hx:xs.length=l+1) (hy:ys.length=l+1)
    (lx:lim xs) (ly:lim ys)
    (k1:∀ j,j<l+1→w.cell? ⟨b1,o1+j,none⟩=some (.int .u32 (xs.getD j 0)))
    (k2:∀ j,j<l+1→w.cell? ⟨b2,o2+j,none⟩=some (.int .u32 (ys.getD j 0)))
    (h1:Says1 Tryz.prog 123 v1 w (.slice (some ⟨b1,o1,none⟩) (l+1) c1)) (h2:Says1 Tryz.prog 123 v2 w (.slice (some ⟨b2,o2,none⟩) (l+1) c2)) :
    Calls Tryz.prog 118 #[v1,v2] w fun e w'=>e=.returned (.int .i64 (cmpI (val xs) (val ys)))∧∃ n,w'=w.drewN n:=by
 have K1:Hid (∀ j,j<l+1→w.cell? ⟨b1,o1+j,none⟩=some (.int .u32 (xs.getD j 0))):=k1;have K2:Hid (∀ j,j<l+1→w.cell? ⟨b2,o2+j,none⟩=some (.int .u32 (ys.getD j 0))):=k2;have HX:Hid (xs.length=l+1):=hx;have HY:Hid (ys.length=l+1):=hy;clear k1 k2 hx hy;go_enter Tryz.func118,Tryz.ntmps118
 go_wp2_with fail
 refine (h1).mono ?_;rintro e w' ⟨rfl,rfl⟩
 go_wp2_with fail
 refine (h2).mono ?_;rintro e w' ⟨rfl,rfl⟩;go_wp2
 go_loopw [5] (fun s wr=>(∃ n,wr=w.drewN n)∧((∃ j:Nat,j<l+1∧s=.int .i64 j∧Hid (xs.drop (j+1)=ys.drop (j+1)))∨(s=.int .i64 (-1)∧Hid (xs=ys)))) (fun s _=>(intOf s+1).toNat)
 case atStart=>exact ⟨⟨0,rfl⟩,Or.inl ⟨l,by omega,by go_num,by unfold Hid;rw [List.drop_of_length_le (by rw [HX.out];omega),List.drop_of_length_le (by rw [HY.out];omega)]⟩⟩
 case round=>
  obtain ⟨⟨n,rfl⟩,⟨j,hj,rfl,hd⟩ | ⟨rfl,he⟩⟩:=hrel
  · have g1:=K1.out j hj
    have g2:=K2.out j hj;have r1:=lim_getD lx j;have r2:=lim_getD ly j;generalize hp:xs.getD j 0=p at *;generalize hq:ys.getD j 0=q at *;have HP:Hid (xs.getD j 0=p):=hp;have HQ:Hid (ys.getD j 0=q):=hq;clear hp hq;by_cases hpq:p=q
    · subst hpq
      cases j with
      | zero=>
       rw [Nat.add_zero] at g1 g2;go_wp2
       go_quiet (fail)
       go_wp2
       go_roundw
       case rel=>exact ⟨⟨_,rfl⟩,Or.inr ⟨rfl,by
        unfold Hid;have h0:=drop_eq_step xs ys 0 (by rw [HX.out];omega) (by rw [HY.out];omega) hd.out (by rw [HP.out,HQ.out]);simpa using h0⟩⟩
       case measure=>simp [intOf]
      | succ j=>
       go_wp2
       go_quiet (fail)
       go_wp2
       go_roundw
       case rel=>exact ⟨⟨_,rfl⟩,Or.inl ⟨j,by omega,by go_num,by
        unfold Hid;exact drop_eq_step xs ys (j+1) (by rw [HX.out];omega) (by rw [HY.out];omega) hd.out (by rw [HP.out,HQ.out])⟩⟩
       case measure=>simp [intOf];omega
    · have hne:(p != q)=true:=by rw [bne_iff_ne];exact hpq
      by_cases hlt:p<q
      · have hc:cmpI (val xs) (val ys) = -1:=cmpI_lt (val_lt_top lx ly (by rw [HX.out,HY.out]) j (by rw [HX.out];omega) hd.out (by rw [HP.out,HQ.out];exact hlt))
        have HC:Hid (cmpI (val xs) (val ys) = -1):=hc;clear hpq hc;go_wp2
        go_quiet (fail)
        go_wp2
        go_quiet ((go_at_call 154;exact quiet_add (order_yes _)))
        go_wp2
        go_ret
        exact ⟨ret_int HC.out.symm,_,drew3 _ _ _ _⟩
      · have hc:cmpI (val xs) (val ys)=1:=cmpI_gt (val_lt_top ly lx (by rw [HX.out,HY.out]) j (by rw [HY.out];omega) hd.out.symm (by rw [HP.out,HQ.out];omega))
        have HC:Hid (cmpI (val xs) (val ys)=1):=hc;clear hpq hc;have hlf:decide (p<q)=false:=by simpa using hlt
        go_wp2
        go_quiet (fail)
        go_wp2
        go_quiet ((go_at_call 154;exact quiet_add (order_no _)))
        go_wp2
        go_ret
        exact ⟨ret_int HC.out.symm,_,drew3 _ _ _ _⟩
  · go_wp2
    go_ret
    exact ⟨ret_int (cmpI_eq (by rw [he.out])).symm,_,rfl⟩
/-- nat.Compare at whatever two slices of limbs: which number is greater; nothing is written. -/
theorem compare_rd {B B':Nat} {w:World} {v1 v2:Value} {xs ys:List Int} (h1:Rd B w v1 xs) (h2:Rd B' w v2 ys) :
    Calls Tryz.prog 118 #[v1,v2] w fun e w'=>e=.returned (.int .i64 (cmpI (val xs) (val ys)))∧∃ n,w'=w.drewN n:=by
 have m1:=meant_rd h1;have m2:=meant_rd h2;have t1:=h1.meant;have t2:=h2.meant;rw [← val_tr xs,← val_tr ys];have c1:=tr_can h1.lim;have c2:=tr_can h2.lim;have s1:=tr_length_le xs;have s2:=tr_length_le ys;obtain ⟨_,a1,p1,e1,i1,j1,_,f1⟩:=h1;obtain ⟨_,a2,p2,e2,i2,j2,_,f2⟩:=h2;rw [← tr_length] at m1 m2 t1 t2;obtain ⟨_,a1',p1',e1',_,_,_,r1⟩:=t1;obtain ⟨_,a2',p2',e2',_,_,_,r2⟩:=t2;rw [e1'] at m1;rw [e2'] at m2;generalize tr xs=us at *;generalize tr ys=vs at *;by_cases hl:us.length=vs.length
 · by_cases h0:us.length=0
   · have k1:us=[]:=List.eq_nil_of_length_eq_zero h0
     have k2:vs=[]:=List.eq_nil_of_length_eq_zero (by omega);subst k1 k2;refine (compare_none v1 v2 a1' a2' p1' p2' w m1 m2).mono ?_;rintro e w' ⟨rfl,rfl⟩;exact ⟨rfl,0,rfl⟩
   · obtain ⟨l,hl1⟩:∃ l,us.length=l+1:=⟨us.length - 1,by omega⟩
     have hl2:vs.length=l+1:=by omega
     rcases r1 with r1 | ⟨b1,o1,rfl,_,k1⟩
     · omega
     rcases r2 with r2 | ⟨b2,o2,rfl,_,k2⟩
     · omega
     rw [hl1] at m1 k1;rw [hl2] at m2 k2;exact compare_walk v1 v2 b1 o1 p1' b2 o2 p2' l us vs w (by omega) hl1 hl2 c1.1 c2.1 k1 k2 m1 m2
 · refine (compare_len v1 v2 a1' a2' us.length p1' vs.length p2' w (by omega) (by omega) m1 m2 hl).mono ?_
   rintro e w' ⟨rfl,rfl⟩;refine ⟨ret_int ?_,0,rfl⟩;by_cases h:us.length<vs.length
   · rw [if_pos h,cmpI_lt (can_len_lt c1 c2 h)]
   · rw [if_neg h,cmpI_gt (can_len_lt c2 c1 (by omega))]
theorem info_u32:(Tryz.prog.info? 100).map (fun i=>(i.zero,i.size,i.bytes))=some (some (.int .u32 0),1,4):=by kernel_rfl
/-- What a call that makes limbs hands back: a slice of its own, with these limbs; nothing that was there has turned. -/
def Makes (w:World) (e:Ending) (w':World) (xs:List Int):Prop:=∃ a c,e=.returned (.slice a xs.length c)∧Own w.heap.size w' (.slice a xs.length c) xs∧Below w.heap.size w w'
theorem Own.form {base:Nat} {w:World} {v:Value} {xs:List Int} (h:Own base w v xs):∃ a c,v=.slice a xs.length c:=by
 rcases h.shape with ⟨rfl,rfl⟩ | ⟨g,cap,rfl,_⟩
 · exact ⟨none,0,rfl⟩
 · exact ⟨_,cap,rfl⟩
theorem Makes.of {w w':World} {e:Ending} {v:Value} {xs:List Int} (he:e=.returned v) (ho:Own w.heap.size w' v xs) (hb:Below w.heap.size w w'):Makes w e w' xs:=by
 obtain ⟨a,c,rfl⟩:=ho.form;exact ⟨a,c,he,ho,hb⟩
theorem cells_news {w:World} {b off:Nat} {us:List Int} (hc:∀ j,j<us.length→w.cell? ⟨b,off+j,none⟩=some (.int .u32 (us.getD j 0))) :
    ∀ j u,(us.map (Value.int .u32))[j]? = some u→w.cell? ((⟨b,off,none⟩:Addr).add j)=some u:=by
 intro j u h;have hj:j<us.length:=by
  have:=(List.getElem?_eq_some_iff.1 h).1;simpa using this
 rw [getD_map_u32 us j hj] at h;rw [← h,← hc j hj];have e:(⟨b,off,none⟩:Addr).add j=⟨b,off+j,none⟩:=by
  cases j with
  | zero=>simp [Addr.add]
  | succ j=>simp [Addr.add]
 rw [e]
theorem Makes.alloc {w w':World} {e:Ending} {xs:List Int} {o:Obj} (h:Makes (w.alloc o) e w' xs):Makes w e w' xs:=by
 obtain ⟨a,c,he,ho,hb⟩:=h;refine ⟨a,c,he,ho.mono (by simp),?_⟩;exact ((Below.refl _ w).alloc (Nat.le_refl _) o).trans (hb.mono (by simp))
theorem rd_two (w:World) (x y:Int) (hx:0≤x∧x<4294967296) (hy:0≤y∧y<4294967296) :
    Rd (w.heap.size+1) (w.alloc (.cells #[.int .u32 x,.int .u32 y] 100)) (.slice (some ⟨w.heap.size,0,none⟩) 2 2) [x,y]:=by
 refine ⟨fun z hz => ?_,_,2,rfl,Nat.le_refl _,by omega,(fun h=>by cases h),Or.inr ⟨w.heap.size,0,rfl,by omega,fun j hj => ?_⟩⟩
 · simp at hz;rcases hz with rfl | rfl
   · exact hx
   · exact hy
 · match j,hj with
   | 0,_=>simp
   | 1,_=>simp
theorem trim_some (v1:Value) (ad:Addr) (c:Nat) (us:List Int) (w:World) (hl:lim us) (hsz:us.length*4≤140737488355328)
    (HN:∀ j u,(us.map (Value.int .u32))[j]? = some u→w.cell? (ad.add j)=some u)
    (h1:Says1 Tryz.prog 123 v1 w (.slice (some ad) us.length c)) :
    Calls Tryz.prog 125 #[v1] w fun e w'=>Makes w e w' us:=by
 obtain ⟨i0,hi,hz0,hz1,hz2⟩:=info_parts info_u32;go_enter Tryz.func125,Tryz.ntmps125
 go_wp2_with fail
 refine (h1).mono ?_;rintro e w' ⟨rfl,rfl⟩
 go_wp2_with (at_builtin;refine wpList_append_own _ rfl _ _ 22 rfl w.heap.size 100 i0 (.int .u32 0) 1 4 Tryz.underlying22 hi hz0 hz1 hz2 rfl (by decide) _ _ _ rfl (World.ownsRow_nil _ _ _ _) ad us.length c (us.map (Value.int .u32)) rfl (by simp) HN (ints_oneCell _ _) ?c1 ?c2 (Nat.le_refl _) ?_)
 case c1=>unfold maxLen;omega
 case c2=>omega
 intro v' w1 hown hgrow _;go_wp2
 go_ret
 exact Makes.of rfl ⟨hl,hown⟩ ((Below.refl _ _).grown hgrow (Nat.le_refl _) (fun k h=>by cases h))
theorem trim_none (v1:Value) (w:World)
    (h1:Says1 Tryz.prog 123 v1 w (.slice none 0 0)) :
    Calls Tryz.prog 125 #[v1] w fun e w'=>Makes w e w' []:=by
 obtain ⟨i0,hi,hz0,hz1,hz2⟩:=info_parts info_u32;go_enter Tryz.func125,Tryz.ntmps125
 go_wp2_with fail
 refine (h1).mono ?_;rintro e w' ⟨rfl,rfl⟩;go_wp2
 go_ret
 exact Makes.of rfl ⟨lim_nil,World.ownsRow_nil _ _ _ _⟩ (Below.refl _ _)
/-- nat.Trim at whatever slice of limbs. -/
theorem trim_rd {B:Nat} {w:World} {v:Value} {xs:List Int} (h:Rd B w v xs) (hsz:xs.length*4≤140737488355328) :
    Calls Tryz.prog 125 #[v] w fun e w'=>Makes w e w' (tr xs):=by
 have m:=meant_rd h;have t:=h.meant;have hs:=tr_length_le xs;rw [← tr_length] at m t;obtain ⟨hl,a,p,e,_,_,hn,r⟩:=t;rw [e] at m;generalize tr xs=us at *
 cases a with
 | none=>
  have hp:=hn rfl;subst hp;have e0:us.length=0:=by
   rcases r with r | ⟨_,_,h,_⟩
   · exact r
   · cases h
  have e1:us=[]:=List.eq_nil_of_length_eq_zero e0;subst e1;exact trim_none v w m
 | some ad=>
  refine trim_some v ad p us w hl (by omega) ?_ m;rcases r with r | ⟨b,off,h,_,hc⟩
  · have e1:us=[]:=List.eq_nil_of_length_eq_zero r
    subst e1;intro j u h;simp at h
  · cases h
    exact cells_news hc
/-- nat.Of: a number below 2^64 in limbs. -/
theorem of_any (n:Int) (h0:0≤n) (h1:n<18446744073709551616) (w:World) :
    Calls Tryz.prog 113 #[.int .u64 n] w fun e w'=>Makes w e w' (tr [n % 4294967296,n/4294967296]):=by
 go_enter Tryz.func113,Tryz.ntmps113
 go_wp2_with fail
 refine (trim_rd (rd_two w (n % 4294967296) (n/4294967296) (by omega) (by omega)) (by simp)).mono ?_;intro e w' hm;obtain ⟨a,c,rfl,ho,hb⟩:=hm.alloc;go_wp2
 go_ret
 exact ⟨a,c,rfl,ho,hb⟩
/-- One cell of a local variable whose address is taken. -/
def Box (w:World) (B:Nat) (ty:TypeId) (v:Value):Prop:=w.heap[B]? = some (.cells #[v] ty (0,0))
/-- The same of a call that hands back a running number. -/
def BoxMakes (w:World) (e:Ending) (w':World) (xs:List Int):Prop:=∃ a c,e=.returned (.agg #[.slice a xs.length c])∧Own w.heap.size w' (.slice a xs.length c) xs∧Below w.heap.size w w'
theorem ownBlock_ne {base k:Nat} {w:World} {v:Value} {xs:List Int} (h:Own base w v xs) (hk:k<base):v.ownBlock≠some k:=by
 intro e;have:=(h.2.lt k e).1;omega
theorem beginAt_any (n:Int) (h0:0≤n) (h1:n<18446744073709551616) (w:World) :
    Calls Tryz.prog 156 #[.int .u64 n] w fun e w'=>BoxMakes w e w' (tr [n % 4294967296,n/4294967296]):=by
 go_enter Tryz.func156,Tryz.ntmps156
 go_wp2_with fail
 refine (of_any n h0 h1 _).mono ?_;intro e w1 hm;obtain ⟨a,c,rfl,ho,hb⟩:=hm;have hz:w.heap.size<w1.heap.size:=by have:=hb.size;simp at this;omega
 have hbx:Box w1 w.heap.size 116 (.slice none 0 0):=by unfold Box;rw [hb.block _ (by simp)];exact heap_alloc_new _ _
 have hc:=cell_of_one hbx;have hf:=free_of_one hbx;have hs:∀ u,(w1.setCell ⟨w.heap.size,0,none⟩ u).cell? ⟨w.heap.size,0,none⟩=some u:=fun u=>cell_of_one (one_setCell (u:=u) hbx);generalize hN:(tr [n % 4294967296,n/4294967296]).length=N at *;have HN:Hid ((tr [n % 4294967296,n/4294967296]).length=N):=hN;clear hN hbx;go_wp2
 refine bodyPost_ret (v:=.agg #[.slice a N c]) (by simp [results,Tryz.results156,go_sem,hz,hs]) rfl ?_;obtain rfl:=HN.out;exact ⟨a,c,rfl,((ho.mono (by simp)).setCell (ownBlock_ne ho (by simp)) _),(((Below.refl _ w).alloc (Nat.le_refl _) _).trans (hb.mono (by simp))).setCell (Nat.le_refl _) _⟩
theorem trimM_any {B ty Br:Nat} {w:World} {v:Value} {xs:List Int} (hbox:Box w B ty v) (h:Rd Br w v xs) :
    Calls Tryz.prog 182 #[.pointer (some ⟨B,0,none⟩)] w fun e w'=>e=.returned (.tuple #[])∧w'=w.setCell ⟨B,0,none⟩ (vtake v (tl xs xs.length)):=by
 have hc:=cell_of_one hbox;have hf:=free_of_one hbox;have hm:=meant_rd h;have hsh:∃ a n c,vtake v (tl xs xs.length)=.slice a n c:=by
  obtain ⟨_,a,c,rfl,_⟩:=h;exact ⟨a,_,c,rfl⟩
 obtain ⟨a,n,c,hv⟩:=hsh;rw [hv] at hm ⊢;clear h hbox hv;go_enter Tryz.func182,Tryz.ntmps182
 go_wp2_with fail
 refine (hm).mono ?_;rintro e w' ⟨rfl,rfl⟩;go_wp2
 go_end0
 exact ⟨rfl,rfl⟩
end
section
theorem mul_bound {x y:Int} (hx:0≤x∧x<4294967296) (hy:0≤y∧y<4294967296):0≤x*y∧x*y≤18446744065119617025:=by
 refine ⟨Int.mul_nonneg hx.1 hy.1,?_⟩;have h1:x*y≤4294967295*y:=Int.mul_le_mul_of_nonneg_right (by omega) hy.1;omega
theorem mul_step (zs ys:List Int) (i j:Nat) (x c V t:Int) (hj:j<ys.length) (hij:i+j<zs.length) (h:val zs+c*pw (i+j)=V+x*val (ys.take j)*pw i)
    (ht:t=x*ys.getD j 0+zs.getD (i+j) 0+c):val (zs.set (i+j) (t % 4294967296))+t/4294967296*pw (i+(j+1))=V+x*val (ys.take (j+1))*pw i:=by
 have hd:4294967296*(t/4294967296)+t % 4294967296=t:=Int.mul_ediv_add_emod t 4294967296;rw [val_set _ _ _ hij,val_take_succ ys j hj,← Nat.add_assoc,pw_succ,pw_add] at *;generalize t/4294967296=q at *;generalize t % 4294967296=r at *;have key:=congrArg (fun u=>u*(pw i*pw j)) (hd.trans ht);simp only [Int.add_mul,Int.mul_add,Int.sub_mul,Int.mul_assoc,Int.mul_comm,Int.mul_left_comm] at *;omega
theorem mul_round (zs xs ys:List Int) (i:Nat) (c V:Int) (hi:i<xs.length) (hl:i+ys.length<zs.length) (h0:zs.getD (i+ys.length) 0=0)
    (h:val zs+c*pw (i+ys.length)=V+xs.getD i 0*val (ys.take ys.length)*pw i) (hV:V=val (xs.take i)*val ys) :
    val (zs.set (i+ys.length) c)=val (xs.take (i+1))*val ys:=by
 rw [val_set _ _ _ hl,h0,val_take_succ xs i hi,Int.add_mul];rw [List.take_length] at h;rw [hV] at h;simp only [Int.sub_zero,Int.mul_assoc,Int.mul_comm,Int.mul_left_comm] at *;omega
theorem zeros_set (zs:List Int) (m k:Nat) (v:Int) (h:∀ j,m≤j→zs.getD j 0=0) (hk:k<m):∀ j,m≤j→(zs.set k v).getD j 0=0:=by
 intro j hj;rw [getD_set,if_neg (by omega)];exact h j hj
end
section
open Go.RowKit
theorem Own.stored {base g n cap:Nat} {w:World} {zs:List Int} (h:Own base w (.slice (some ⟨g,0,none⟩) n cap) zs) (hn:zs.length=n) (j:Nat) (u:Int) (hu:0≤u∧u<4294967296) :
    Own base (w.setCell ⟨g,j,none⟩ (.int .u32 u)) (.slice (some ⟨g,0,none⟩) n cap) (zs.set j u):=by
 subst hn;refine ⟨lim_set h.1 j u hu,?_⟩;rw [List.length_set,List.map_set];exact (h.2.stored j (.int .u32 u)).1
theorem Own.cellAt {base g n cap:Nat} {w:World} {zs:List Int} (h:Own base w (.slice (some ⟨g,0,none⟩) n cap) zs) (hn:zs.length=n) (j:Nat) (hj:j<n):w.cell? ⟨g,j,none⟩=some (.int .u32 (zs.getD j 0)):=by
 subst hn;have:=h.2.cellAt j (by omega);rw [getD_map_u32 zs j hj] at this;exact this
theorem Own.frozenAt {base g n cap:Nat} {w:World} {zs:List Int} (h:Own base w (.slice (some ⟨g,0,none⟩) n cap) zs) (hn:zs.length=n) (j:Nat):w.frozen? ⟨g,j,none⟩=false:=by
 subst hn;exact h.2.frozenAt j
theorem Own.lt {base g n cap:Nat} {w:World} {zs:List Int} (h:Own base w (.slice (some ⟨g,0,none⟩) n cap) zs) (hn:zs.length=n):g<w.heap.size:=by
 subst hn;exact (h.2.lt g rfl).2
theorem own_made {base g n:Nat} {w:World} (h:w.ownsRow base 100 1 (.slice (some ⟨g,0,none⟩) n n) n (madeCells #[Value.int .u32 0] n).toList):Own base w (.slice (some ⟨g,0,none⟩) n n) (List.replicate n 0):=by
 refine ⟨lim_replicate n,?_⟩;have e:(madeCells #[Value.int .u32 0] n).toList=(List.replicate n (0:Int)).map (Value.int .u32):=by
  rw [List.map_replicate];exact toList_madeCells_one _ _
 rw [← e,List.length_replicate];exact h
theorem grown_below {w w':World} {row:Option Nat} (h:Below w.heap.size w w'):w.grownBy w' row:=⟨h.os,h.tape,h.output,h.size,fun k hk _=>h.block k hk⟩
theorem grown_setCell {w w':World} {B:Nat} (h:w.grownBy w' (some B)) (o:Nat) (u:Value):w.grownBy (w'.setCell ⟨B,o,none⟩ u) (some B):=
 ⟨h.os,h.tape,h.output,by simp [World.setCell];exact h.size,fun k hk hne=>by rw [Below.heap_setCell _ _ _ _ (fun e=>hne (by rw [e]))];exact h.block k hk hne⟩
theorem times_walk (B ty n pc m bc:Nat) (pa ba:Option Addr) (xs ys:List Int) (w:World) (hx:Hid (xs.length=n)) (hy:Hid (ys.length=m)) (lx:lim xs) (ly:lim ys) (hbox:Box w B ty (.slice pa n pc)) (hB:B<w.heap.size)
    (hnm:n+m≤35184372088832)
    (kp:0<n→∃ g o,pa=some ⟨g,o,none⟩∧g<w.heap.size∧∀ j,j<n→w.cell? ⟨g,o+j,none⟩=some (.int .u32 (xs.getD j 0)))
    (kb:0<m→∃ g o,ba=some ⟨g,o,none⟩∧g<w.heap.size∧∀ j,j<m→w.cell? ⟨g,o+j,none⟩=some (.int .u32 (ys.getD j 0))) :
    Calls Tryz.prog 157 #[.pointer (some ⟨B,0,none⟩),.slice ba m bc] w fun e w'=>e=.returned (.tuple #[]) ∧
     ∃ zs,lim zs∧val zs=val xs*val ys∧zs.length=n+m∧∃ a c,Box w' B ty (.slice a (tr zs).length c)∧Own w.heap.size w' (.slice a (tr zs).length c) (tr zs)∧w.grownBy w' (some B):=by
 obtain ⟨i0,hi,hz0,hz1,hz2⟩:=info_parts info_u32;have hc0:=cell_of_one hbox;have hf0:=free_of_one hbox;go_enter Tryz.func157,Tryz.ntmps157
 go_wp2_with (at_make;refine wpList_make_full _ rfl _ _ 22 rfl w.heap.size 100 i0 (.int .u32 0) 1 Tryz.underlying22 hi hz0 hz1 _ _ _ _ (n+m) rfl rfl (by omega) (by omega) ?b2 ?b3 (Nat.le_refl _) ?_)
 case b2=>rw [hz2];omega
 case b3=>unfold maxLen;omega
 intro w0 hown0 hgrow0;have hO:=own_made hown0;have hb0:Below w.heap.size w w0:=(Below.refl _ _).grown hgrow0 (Nat.le_refl _) (fun k h=>by cases h);have hc1:w0.cell? ⟨B,0,none⟩=some (.slice pa n pc):=(hb0.cell hB).trans hc0;clear hown0 hgrow0 hc0 hf0;go_wp2
 go_loopw [27] (fun s wr=>∃ (i:Nat) (zs:List Int),i≤n∧s=.int .i64 i∧Hid (zs.length=n+m)∧Own w.heap.size wr (.slice (some ⟨w.heap.size,0,none⟩) (n+m) (n+m)) zs∧Below w.heap.size w wr∧Hid (val zs=val (xs.take i)*val ys)∧Hid (∀ k,i+m≤k→zs.getD k 0=0))
  (fun s _=>n - (intOf s).toNat)
 case atStart=>exact ⟨0,List.replicate (n+m) 0,Nat.zero_le _,rfl,List.length_replicate,hO,hb0,by unfold Hid;rw [val_replicate];simp [val],fun k _=>by simp [List.getD,List.getElem?_replicate];split <;> rfl⟩
 case round=>
  obtain ⟨i,zs,hin,rfl,hzl,hown,hbl,hval,hzero⟩:=hrel;by_cases hlt:i<n
  · obtain ⟨g,o,hpa,hg,hpc⟩:=kp (by omega)
    subst hpa;have hcx:wr.cell? ⟨g,o+i,none⟩=some (.int .u32 (xs.getD i 0)):=(hbl.cell hg).trans (hpc i hlt);have rx:=lim_getD lx i;generalize hX:xs.getD i 0=X at *;have HX:Hid (xs.getD i 0=X):=hX;clear hX hpc hc1 hO hb0;go_wp2
    obtain ⟨wo,rfl⟩:∃ wo:World,wo=wr:=⟨_,rfl⟩
    go_loopw [34,7] (fun s c wi=>∃ (j:Nat) (C:Int) (us:List Int),j≤m∧s=.int .i64 j∧c=.int .u64 C∧0≤C∧C<4294967296∧Hid (us.length=n+m)∧Own w.heap.size wi (.slice (some ⟨w.heap.size,0,none⟩) (n+m) (n+m)) us∧Below w.heap.size w wi∧Hid (val us+C*pw (i+j)=val zs+X*val (ys.take j)*pw i)∧Hid (∀ k,i+m≤k→us.getD k 0=0))
     (fun s _ _=>m - (intOf s).toNat)
    case atStart=>exact ⟨0,0,zs,Nat.zero_le _,rfl,rfl,by omega,by omega,hzl,hown,hbl,by unfold Hid;simp [val],hzero⟩
    case round=>
     obtain ⟨j,C,us,hjm,rfl,rfl,hC0,hC1,hul,hownu,hblu,hvalu,hzerou⟩:=hrel;have hNu:=hownu.lt hul.out;by_cases hjl:j<m
     · obtain ⟨gb,ob,hba,hgb,hbc⟩:=kb (by omega)
       subst hba;have hcy:wr.cell? ⟨gb,ob+j,none⟩=some (.int .u32 (ys.getD j 0)):=(hblu.cell hgb).trans (hbc j hjl);have ry:=lim_getD ly j;have hcz:=hownu.cellAt hul.out (i+j) (by omega);have hfz:=hownu.frozenAt hul.out (i+j);have rz:=lim_getD hownu.lim (i+j);generalize hY:ys.getD j 0=Y at *;generalize hZ:us.getD (i+j) 0=Z at *;have HY:Hid (ys.getD j 0=Y):=hY;have HZ:Hid (us.getD (i+j) 0=Z):=hZ;have hxy:=mul_bound rx ry;clear hY hZ hbc kp kb;have hT0:0≤X*Y+Z+C:=by omega
       have hT1:X*Y+Z+C<18446744073709551616:=by omega
       have hS:=hownu.stored hul.out (i+j) ((X*Y+Z+C) % 4294967296) (by omega);go_wp2
       go_roundw
       case rel=>exact ⟨j+1,(X*Y+Z+C)/4294967296,us.set (i+j) ((X*Y+Z+C) % 4294967296),by omega,by go_num,rfl,by omega,by omega,(by unfold Hid;rw [List.length_set];exact hul.out),hS,hblu.setCell (Nat.le_refl _) _,
        mul_step us ys i j X C (val zs) _ (by rw [hy.out];omega) (by rw [hul.out];omega) hvalu.out (by rw [HY.out,HZ.out]),zeros_set us (i+m) (i+j) _ hzerou.out (by omega)⟩
       case measure=>simp [intOf];omega
     · obtain rfl:j=m:=by omega
       have hfz:=hownu.frozenAt hul.out (i+j);have hcz:=hownu.cellAt hul.out (i+j) (by omega);have hS:=hownu.stored hul.out (i+j) C (by omega);clear kp kb;go_wp2
       go_roundw
       case rel=>exact ⟨i+1,us.set (i+j) C,by omega,by go_num,(by unfold Hid;rw [List.length_set];exact hul.out),hS,hblu.setCell (Nat.le_refl _) _,
        (by have:=mul_round us xs ys i C (val zs) (by rw [hx.out];omega) (by rw [hul.out,hy.out];omega) (by rw [hy.out];exact hzerou.out _ (by omega)) (by rw [hy.out,HX.out];exact hvalu.out) hval.out;rw [hy.out] at this;exact this),zeros_set us (i+1+j) (i+j) _ (fun k hk=>hzerou.out k (by omega)) (by omega)⟩
       case measure=>simp [intOf];omega
  · obtain rfl:i=n:=by omega
    clear kp kb;have hbx:Box wr B ty (.slice pa i pc):=by unfold Box;rw [hbl.block B hB];exact hbox
    have hc2:=cell_of_one hbx;have hf2:=free_of_one hbx;have hz:zs.length=i+m:=hzl.out;have hb2:Box (wr.setCell ⟨B,0,none⟩ (.slice (some ⟨w.heap.size,0,none⟩) (i+m) (i+m))) B ty (.slice (some ⟨w.heap.size,0,none⟩) (i+m) (i+m)):=one_setCell hbx;have hO2:Own w.heap.size (wr.setCell ⟨B,0,none⟩ (.slice (some ⟨w.heap.size,0,none⟩) (i+m) (i+m))) (.slice (some ⟨w.heap.size,0,none⟩) (i+m) (i+m)) zs:=hown.setCell (ownBlock_ne hown hB) _;clear hz
    go_wp2_with fail
    refine (trimM_any hb2 hO2.rd).mono ?_;rintro e w' ⟨rfl,rfl⟩;go_wp2
    go_end0
    refine ⟨rfl,zs,hown.lim,?_,hzl.out,?_⟩
    · rw [hval.out,← hx.out,List.take_length]
    · have hM:=hO2.meant
      obtain ⟨a,c,hv⟩:=hM.form;rw [hv] at hM ⊢;exact ⟨a,c,one_setCell hb2,hM.setCell (ownBlock_ne hM hB) _,grown_setCell (grown_setCell (grown_below hbl) _ _) _ _⟩
/-- What a method of a running number leaves: its one variable holds limbs of the call's own; nothing else that was there has turned. -/
def Leaves (w:World) (B ty:Nat) (e:Ending) (w':World) (zs:List Int):Prop:=e=.returned (.tuple #[])∧∃ a c,Box w' B ty (.slice a zs.length c)∧Own w.heap.size w' (.slice a zs.length c) zs∧w.grownBy w' (some B)
/-- (*multiplier).times: the product, right limbs. -/
theorem times_any {B ty base Br:Nat} {w:World} {pv bv:Value} {xs ys:List Int} (hbox:Box w B ty pv) (hp:Own base w pv xs) (hb:Rd Br w bv ys) (hBr:Br≤w.heap.size) (hn:xs.length+ys.length≤35184372088832) :
    Calls Tryz.prog 157 #[.pointer (some ⟨B,0,none⟩),bv] w fun e w'=>∃ zs,can zs∧val zs=val xs*val ys∧zs.length≤xs.length+ys.length∧Leaves w B ty e w' zs:=by
 have hB:=lt_of_block hbox;have lx:=hp.lim;obtain ⟨_,pa,pc,rfl,_,_,_,kp⟩:=hp.rd;obtain ⟨ly,ba,bc,rfl,_,_,_,kb⟩:=hb;refine (times_walk B ty xs.length pc ys.length bc pa ba xs ys w rfl rfl lx ly hbox hB hn ?_ ?_).mono ?_
 · intro h0
   rcases kp with kp | ⟨g,o,ha,hg,hc⟩
   · omega
   · exact ⟨g,o,ha,hg,hc⟩
 · intro h0
   rcases kb with kb | ⟨g,o,ha,hg,hc⟩
   · omega
   · exact ⟨g,o,ha,by omega,hc⟩
 · rintro e w' ⟨rfl,zs,hl,hv,hz,a,c,h1,h2,h3⟩
   exact ⟨tr zs,tr_can hl,by rw [val_tr,hv],by have:=tr_length_le zs;omega,rfl,a,c,h1,h2,h3⟩
/-- The product, and the sum, of what several lists of limbs say; how many limbs they have. -/
def prodV (xss:List (List Int)):Int:=xss.foldl (fun a xs=>a*val xs) 1
def sumV (xss:List (List Int)):Int:=xss.foldl (fun a xs=>a+val xs) 0
def sumL (xss:List (List Int)):Nat:=xss.foldl (fun a xs=>a+xs.length) 0
theorem take_succ_getD' {α:Type} (xs:List α) (k:Nat) (d:α) (h:k<xs.length):xs.take (k+1)=xs.take k++[xs.getD k d]:=by
 rw [List.take_succ_eq_append_getElem h];simp [List.getD,h]
theorem prodV_succ (xss:List (List Int)) (i:Nat) (h:i<xss.length):prodV (xss.take (i+1))=prodV (xss.take i)*val (xss.getD i []):=by
 rw [take_succ_getD' xss i [] h];unfold prodV;rw [List.foldl_append];rfl
theorem sumV_succ (xss:List (List Int)) (i:Nat) (h:i<xss.length):sumV (xss.take (i+1))=sumV (xss.take i)+val (xss.getD i []):=by
 rw [take_succ_getD' xss i [] h];unfold sumV;rw [List.foldl_append];rfl
theorem sumL_succ (xss:List (List Int)) (i:Nat) (h:i<xss.length):sumL (xss.take (i+1))=sumL (xss.take i)+(xss.getD i []).length:=by
 rw [take_succ_getD' xss i [] h];unfold sumL;rw [List.foldl_append];rfl
theorem sumL_mono (xss:List (List Int)) (i:Nat):sumL (xss.take i)+(xss.getD i []).length≤sumL xss∧sumL (xss.take i)≤sumL xss:=by
 have base:∀ (l:List (List Int)) (a:Nat),a≤l.foldl (fun a xs=>a+xs.length) a:=by
  intro l
  induction l with
  | nil=>intro a;exact Nat.le_refl _
  | cons x l ih=>intro a;exact Nat.le_trans (Nat.le_add_right _ _) (ih _)
 have mono:∀ j,sumL (xss.take j)≤sumL xss:=by
  intro j;have e:sumL xss=(xss.drop j).foldl (fun a xs=>a+xs.length) (sumL (xss.take j)):=by
   unfold sumL;rw [← List.foldl_append,List.take_append_drop]
  rw [e];exact base _ _
 refine ⟨?_,mono i⟩;by_cases h:i<xss.length
 · rw [← sumL_succ xss i h];exact mono _
 · have e:xss.getD i []=[]:=by simp [List.getD,List.getElem?_eq_none (Nat.le_of_not_lt h)]
   rw [e];simpa using mono i
/-- A list of slices in memory: what each reads as. -/
structure Many (w:World) (Lb k:Nat) (vs:List Value) (xss:List (List Int)):Prop where
 lv:vs.length=k
 lx:xss.length=k
 lt:Lb<w.heap.size
 cell:∀ j,j<k→w.cell? ⟨Lb,j,none⟩=some (vs.getD j (.bool false))
 rd:∀ j,j<k→Rd w.heap.size w (vs.getD j (.bool false)) (xss.getD j [])
theorem can_one:can [1]:=⟨fun x hx=>by simp at hx;omega,Or.inr (by decide)⟩
theorem one_limbs:tr [(1:Int) % 4294967296,1/4294967296]=[1]:=by decide
theorem product_any {Lb k:Nat} {vs:List Value} {xss:List (List Int)} {w:World} (hm:Many w Lb k vs xss) (hk:k≤1000000) (hs:sumL xss≤17592186044416) :
    Calls Tryz.prog 120 #[.slice (some ⟨Lb,0,none⟩) k k] w fun e w'=>∃ zs,can zs∧val zs=prodV xss∧zs.length≤1+sumL xss∧Makes w e w' zs:=by
 go_enter Tryz.func120,Tryz.ntmps120
 go_wp2_with fail
 refine (beginAt_any 1 (by omega) (by omega) _).mono ?_;intro e w1 hm1;rw [one_limbs] at hm1;obtain ⟨a,c,rfl,ho,hb⟩:=hm1;have hz:=hb.size;go_wp2
 go_loopw [10] (fun s wr=>∃ (i:Nat) (zs:List Int) (a:Option Addr) (c:Nat),i≤k∧s=.int .i64 i∧can zs∧Hid (val zs=prodV (xss.take i))∧Hid (zs.length≤1+sumL (xss.take i))∧Box wr w1.heap.size 147 (.slice a zs.length c)∧Own w.heap.size wr (.slice a zs.length c) zs∧Below w.heap.size w wr)
  (fun s _=>k - (intOf s).toNat)
 case atStart=>exact ⟨0,[1],a,c,Nat.zero_le _,rfl,can_one,by unfold Hid;simp [val,prodV],by unfold Hid;simp,heap_alloc_new _ _,ho.alloc _,hb.alloc (by omega) _⟩
 case round=>
  obtain ⟨i,zs,a2,c2,hik,rfl,hcan,hval,hlen,hbox,hown,hbl⟩:=hrel;by_cases hlt:i<k
  · have hcell:wr.cell? ⟨Lb,i,none⟩=some (vs.getD i (.bool false)):=(hbl.cell hm.lt).trans (hm.cell i hlt)
    have hrd:Rd w.heap.size wr (vs.getD i (.bool false)) (xss.getD i []):=(hm.rd i hlt).below hbl;have hsz:=hbl.size;have hml:=sumL_mono xss i;have HML:Hid (sumL (xss.take i)+(xss.getD i []).length≤sumL xss∧sumL (xss.take i)≤sumL xss):=hml;clear hml;generalize hV:vs.getD i (.bool false)=V at *;clear hV
    go_wp2_with fail
    refine (meant_rd hrd).mono ?_;rintro e w2 ⟨rfl,rfl⟩
    go_wp2_with fail
    refine (times_any hbox hown hrd.meant hsz (by have:=HML.out;have:=hlen.out;have:=tr_length_le (xss.getD i []);omega)).mono ?_;rintro e w2 ⟨us,hcu,hvu,hlu,rfl,a3,c3,hbox3,hown3,hg3⟩;go_wp2
    go_roundw
    case rel=>exact ⟨i+1,us,a3,c3,by omega,by go_num,hcu,(by unfold Hid;rw [hvu,hval.out,val_tr,prodV_succ xss i (by rw [hm.lx];exact hlt)]),(by unfold Hid;rw [sumL_succ xss i (by rw [hm.lx];exact hlt)];have:=hlen.out;have:=tr_length_le (xss.getD i []);omega),hbox3,hown3.mono hsz,hbl.grown hg3 hsz (fun q hq=>by cases hq;exact hz)⟩
    case measure=>simp [intOf];omega
  · obtain rfl:i=k:=by omega
    have hc2:=cell_of_one hbox;have hsz:=hbl.size;go_wp2
    go_ret
    refine ⟨zs,hcan,?_,?_,a2,c2,rfl,hown,hbl⟩
    · rw [hval.out,← hm.lx,List.take_length]
    · have:=hlen.out;rw [← hm.lx,List.take_length] at this;exact this
theorem zeroCells_one (z:Value) (m:Nat):Builtin.zeroCells #[z] m=(List.replicate m z).toArray:=by
 unfold Builtin.zeroCells;apply Array.ext
 · simp
 · intro i h1 h2
   simp [Nat.mod_one]
theorem run_append_own_zeros {P:Program} (w:World) (base:Nat) (t tn ty e:TypeId) (i:TypeInfo) (z:Value) (kq kn:IntKind) (ht:P.underlying t=some (.slice e)) (htn:P.underlying tn=some (.int kn)) (hi:P.info? e=some i) (hz:i.zero=some z)
    (hsize:i.size=1) (hzs:z.cells=#[z]) (hz1:z.oneCell'=true)
    (v:Value) (n:Nat) (xs:List Value) (hown:w.ownsRow base e 1 v n xs) (m:Nat) (h0:0<m)
    (h63:n+m≤maxLen) (hbytes:(n+m)*i.bytes≤140737488355328) (hbase:base≤w.heap.size) :
    ∃ g cap w',(Builtin.append_ #[t,tn] ty #[v,.int kq m]).run P w=.ok (.slice (some ⟨g,0,none⟩) (n+m) cap) w'∧w'.ownsRow base e 1 (.slice (some ⟨g,0,none⟩) (n+m) cap) (n+m) (xs++List.replicate m z)∧w.grownBy w' v.ownBlock:=by
 have hsmall:n+m≤9223372036854775807:=by simp only [maxLen] at h63;omega
 have hxl:xs.length=n:=by simpa using hown.1
 have hlen:(xs++List.replicate m z).length=(n+m)*1:=by simp [hxl]
 have hmb:m*i.bytes≤140737488355328:=Nat.le_trans (Nat.mul_le_mul_right _ (by omega)) hbytes;have grown:∀ (old:Nat) (row:Option Nat),
     (w.drew.alloc (.cells (xs.toArray++Builtin.zeroCells z.cells m++Builtin.zeroCells z.cells (grownCap w (n+m) old e - (n+m))) e)).ownsRow base e 1
      (.slice (some ⟨w.heap.size,0,none⟩) (n+m) (grownCap w (n+m) old e)) (n+m) (xs++List.replicate m z) ∧
     w.grownBy (w.drew.alloc (.cells (xs.toArray++Builtin.zeroCells z.cells m++Builtin.zeroCells z.cells (grownCap w (n+m) old e - (n+m))) e)) row:=by
  intro old row;have hge:=grownCap_ge w (n+m) old e;have hcm:grownCap w (n+m) old e≤maxLen:=grownCap_le_maxLen w (n+m) old e h63;refine ⟨⟨hlen,.inr ⟨w.heap.size,_,_,rfl,hbase,heap_alloc_new w.drew _,hge,hcm,?_,?_⟩⟩,⟨rfl,rfl,rfl,by simp,fun k hk _=>Below.heap_alloc w.drew _ k hk⟩⟩
  · simp only [hzs,zeroCells_one,Array.size_append,List.size_toArray,List.length_replicate,hxl]
    omega
  · simp only [hzs,zeroCells_one,Array.toList_append,List.append_assoc]
    rw [← List.append_assoc,← hlen];exact List.take_left
 have hk:m≠0:=by omega
 have hw:IntKind.i64.wrap (m:Int)=m:=by rw [IntKind.wrap_i64];omega
 have h48i:¬ (281474976710656<(m:Int)*(i.bytes:Int)):=by
  rw [← Int.natCast_mul];omega
 have hneg:¬ ((m:Int)<0):=by omega
 rcases hown.2 with ⟨rfl,rfl⟩ | ⟨g,cap,cur,rfl,hbg,hg,hnc,hcm,hcs,htake⟩
 · have hx:xs=[]:=List.eq_nil_of_length_eq_zero (by simpa using hown.1)
   subst hx;have hr:=Lib.run_append_nil_zeros (P:=P) w t tn ty e i z kq kn ht htn hi hz m h0 (by omega) (by omega) (by omega);have hgr:=grown 0 (Value.ownBlock (.slice none 0 0));simp only [Nat.zero_add,List.nil_append,Array.empty_append] at hgr ⊢;exact ⟨_,_,_,hr,hgr.1,hgr.2⟩
 · by_cases hroom:n+m≤cap
   · have hfit:n*1+(List.replicate m z).length≤cur.size:=by rw [hcs,List.length_replicate];omega
     have hst:=run_storeCells_at P g (n*1) e (List.replicate m z) 0 cur w hg (by simpa using hfit) (fun u hu=>by rw [List.eq_of_mem_replicate hu];exact hz1);simp only [Nat.add_zero] at hst;have hns:¬ (m*i.size=0):=by rw [hsize];omega
     have hr:(Builtin.append_ #[t,tn] ty #[.slice (some ⟨g,0,none⟩) n cap,.int kq m]).run P w =
         .ok (.slice (some ⟨g,0,none⟩) (n+m) cap) (w.setRow g (cur.toList.take (n*1)++List.replicate m z++cur.toList.drop (n*1+(List.replicate m z).length)).toArray):=by
      simp only [Nat.mul_one] at hst;simp [Builtin.append_,run_underlying ht,run_underlying htn,sizeOf,typeInfo,zeroValue,hi,hz,asInt,asIntOf,hw,hk,hneg,h48i,hroom,Addr.add_lit,hzs,zeroCells_one,hsize,hst]
     refine ⟨g,cap,_,hr,⟨hlen,.inr ⟨g,cap,_,rfl,hbg,setRow_heap w g cur _ e _ hg,hroom,hcm,?_,?_⟩⟩,⟨rfl,rfl,rfl,by simp,fun k _ hk=>setRow_other w g k _ (fun e=>hk (by simp [Value.ownBlock,e]))⟩⟩
     · simp only [List.size_toArray,List.length_append,List.length_take,List.length_drop,Array.length_toList,List.length_replicate]
       omega
     · rw [htake,← hlen]
       exact List.take_left
   · have holds:∀ j u,xs[j]? = some u→w.drew.cell? ((⟨g,0,none⟩:Addr).add j)=some u:=hown.cells (g:=g) rfl
     have hold:=run_firstCells_some (P:=P) w.drew i.size n ⟨g,0,none⟩ n cap xs (by rw [hsize];simpa using hxl) holds;have hr:=Lib.run_append_grow_zeros (P:=P) w t tn ty e i z kq kn ht htn hi hz (some ⟨g,0,none⟩) n cap xs hold m h0 (by omega) (by omega) (by omega) (by omega) (growslice_fits (by omega) hbytes);have hgr:=grown cap (Value.ownBlock (.slice (some ⟨g,0,none⟩) n cap));exact ⟨_,_,_,hr,hgr.1,hgr.2⟩
/-- As one step of a region that draws. -/
theorem step_append_own_zeros {P:Program} {ops:Array Oper} {o:Oper} {a:Act} {w:World} {K:Act→World→Prop} {Q:Exit→Act→World→Prop} {E:Prop}
    (hg:o.guard=none) (s x:Operand) (t tn:TypeId) (hop:o.op=Op.call { callee:=Callee.builtin Builtin.append,args:=#[s,x],argTypes:=#[t,tn] })
    (base:Nat) (e:TypeId) (i:TypeInfo) (z:Value) (kq kn:IntKind) (ht:P.underlying t=some (.slice e)) (htn:P.underlying tn=some (.int kn)) (hi:P.info? e=some i) (hz:i.zero=some z)
    (hsize:i.size=1) (hzs:z.cells=#[z]) (hz1:z.oneCell'=true)
    (v:Value) (n:Nat) (xs:List Value) (hs:a.eval s=v) (hown:w.ownsRow base e 1 v n xs) (m:Nat) (M:Int) (hx:a.eval x=.int kq M) (hM:M=(m:Int)) (h0:0<m)
    (h63:n+m≤maxLen) (hbytes:(n+m)*i.bytes≤140737488355328) (hbase:base≤w.heap.size)
    (hK:∀ g cap w',w'.ownsRow base e 1 (.slice (some ⟨g,0,none⟩) (n+m) cap) (n+m) (xs++List.replicate m z)→w.grownBy w' v.ownBlock→K (a.put o.dst (.slice (some ⟨g,0,none⟩) (n+m) cap)) w') :
    if Region.wanted o (yielded ops a.tmps)=true then Oper.wp P o a w K Q else E:=by
 have hw:Region.wanted o (yielded ops a.tmps)=true:=by simp [Region.wanted,hg]
 rw [if_pos hw];subst hM;obtain ⟨g,cap,w',hrun,r1,r2⟩:=run_append_own_zeros (P:=P) w base t tn o.type e i z kq kn ht htn hi hz hsize hzs hz1 v n xs hown m h0 h63 hbytes hbase;unfold Oper.wp;simp [execOp,hop,resolve,invoke,builtin,hs,hx,hrun,Result.andThen];exact hK g cap w' r1 r2
/-- A running number: its variable (block B, of type ty) holds limbs of the call's own (blocks from base on). -/
def St (base:Nat) (w:World) (B ty:Nat) (xs:List Int):Prop:=∃ a c,Box w B ty (.slice a xs.length c)∧Own base w (.slice a xs.length c) xs∧base≤B∧base≤w.heap.size
theorem own_box_ne {base B ty:Nat} {w:World} {v u:Value} {xs:List Int} (hb:Box w B ty u) (h:Own base w v xs) (hty:ty≠100):v.ownBlock≠some B:=by
 intro e;obtain ⟨_,_,h | ⟨g,cap,cur,rfl,_,hh,_⟩⟩:=h
 · rw [h.1] at e;cases e
 · have:g=B:=Option.some.inj e
   subst this;unfold Box at hb;rw [hb] at hh;exact hty (by simpa using congrArg (fun o:Option Obj=>match o with | some (.cells _ t _)=>t | _=>0) hh)
theorem push_zero (p:Addr) (w:World) :
    Calls Tryz.prog 181 #[.pointer (some p),.int .u64 0] w fun e w'=>e=.returned (.tuple #[])∧w'=w:=by
 go_enter Tryz.func181,Tryz.ntmps181;go_wp2
 go_end0
 exact ⟨rfl,rfl⟩
theorem push_some {base B ty:Nat} {w:World} {xs:List Int} (L:Int) (h0:0<L) (h1:L<4294967296) (hty:ty≠100) (hs:St base w B ty xs) (hsz:xs.length≤17592186044416) :
    Calls Tryz.prog 181 #[.pointer (some ⟨B,0,none⟩),.int .u64 L] w fun e w'=>e=.returned (.tuple #[])∧St base w' B ty (xs++[L])∧Below base w w':=by
 obtain ⟨a,c,hbox,hown,hBb,hbs⟩:=hs;obtain ⟨i0,hi,hz0,hz1,hz2⟩:=info_parts info_u32;have hne:=own_box_ne hbox hown hty;have hlt:=lt_of_block hbox;have hc:=cell_of_one hbox;have hf:=free_of_one hbox;go_enter Tryz.func181,Tryz.ntmps181
 go_wp2_with (at_builtin;refine wpList_append_own _ rfl _ _ 22 rfl base 100 i0 (.int .u32 0) 1 4 Tryz.underlying22 hi hz0 hz1 hz2 rfl (by decide) _ _ _ rfl (hown.2.alloc _) ⟨w.heap.size,0,none⟩ 1 1 [.int .u32 L] rfl rfl ?c1 ?c2 ?c3 ?c4 ?c5 ?_)
 case c1=>
  intro j u hj
  match j,hj with
  | 0,hj=>simp at hj;subst hj;simp [Addr.add]
 case c2=>intro u hu;simp at hu;subst hu;rfl
 case c3=>unfold maxLen;omega
 case c4=>omega
 case c5=>simp;omega
 intro v' w1 hown' hgrow _;have hO:Own base w1 v' (xs++[L]):=by
  refine ⟨lim_append.2 ⟨hown.lim,fun x hx=>by simp at hx;omega⟩,?_⟩;rw [List.length_append,List.map_append];exact hown'
 have hbA:Box (w.alloc (.cells #[.int .u32 L] 100)) B ty (.slice a xs.length c):=by
  unfold Box;rw [Below.heap_alloc _ _ _ hlt];exact hbox
 have hb1:Box w1 B ty (.slice a xs.length c):=by
  unfold Box;rw [hgrow.block B (by simp;omega) (fun e=>hne e.symm)];exact hbA
 have hl1:Below base w w1:=((Below.refl _ w).alloc hbs _).grown hgrow (by simp;omega) (fun k hk=>(hown.2.lt k hk).1);obtain ⟨a2,c2,hv2⟩:=hO.form;have hc1:=cell_of_one hb1;have hf1:=free_of_one hb1;rw [hv2] at hO;clear hown' hgrow hbA hc hf hbox hown;rw [hv2];generalize hN:(xs++[L]).length=N at *;have HN:Hid ((xs++[L]).length=N):=hN;clear hN hv2;go_wp2
 go_end0
 obtain rfl:=HN.out;exact ⟨rfl,⟨a2,c2,one_setCell hb1,hO.setCell (own_box_ne hb1 hO hty) _,hBb,by have:=hl1.size;simp;omega⟩,hl1.setCell hBb _⟩
/-- The limbs behind a push. -/
def pushed (xs:List Int) (L:Int):List Int:=if L=0 then xs else xs++[L]
theorem val_pushed (xs:List Int) (L:Int):val (pushed xs L)=val xs+L*pw xs.length:=by
 unfold pushed
 split
 · rename_i h;rw [h];simp
 · rw [val_append];simp only [val];rw [Int.mul_comm];simp
theorem push_any {base B ty:Nat} {w:World} {xs:List Int} (L:Int) (h0:0≤L) (h1:L<4294967296) (hty:ty≠100) (hs:St base w B ty xs) (hsz:xs.length≤17592186044416) :
    Calls Tryz.prog 181 #[.pointer (some ⟨B,0,none⟩),.int .u64 L] w fun e w'=>e=.returned (.tuple #[])∧St base w' B ty (pushed xs L)∧Below base w w':=by
 unfold pushed;by_cases h:L=0
 · subst h
   rw [if_pos rfl];refine (push_zero ⟨B,0,none⟩ w).mono ?_;rintro e w' ⟨rfl,rfl⟩;exact ⟨rfl,hs,Below.refl _ _⟩
 · rw [if_neg h]
   exact push_some L (by omega) h1 hty hs hsz
theorem add_step (us ys:List Int) (i:Nat) (c V t:Int) (hi:i<us.length) (h:val us+c*pw i=V+val (ys.take i)) (ht:t=us.getD i 0+c+ys.getD i 0) :
    val (us.set i (t % 4294967296))+t/4294967296*pw (i+1)=V+val (ys.take (i+1)):=by
 have hd:4294967296*(t/4294967296)+t % 4294967296=t:=Int.mul_ediv_add_emod t 4294967296;have hy:val (ys.take (i+1))=val (ys.take i)+ys.getD i 0*pw i:=by
  by_cases hy:i<ys.length
  · exact val_take_succ ys i hy
  · have e1:ys.take (i+1)=ys.take i:=by rw [List.take_of_length_le (by omega),List.take_of_length_le (by omega)]
    have e2:ys.getD i 0=0:=by simp [List.getD,List.getElem?_eq_none (Nat.le_of_not_lt hy)]
    rw [e1,e2];simp
 rw [val_set _ _ _ hi,hy,pw_succ];generalize t/4294967296=q at *;generalize t % 4294967296=r at *;have key:=congrArg (fun u=>u*pw i) (hd.trans ht);simp only [Int.add_mul,Int.sub_mul,Int.mul_assoc,Int.mul_comm,Int.mul_left_comm] at *;omega
theorem can_of_low {zs:List Int} (hl:lim zs) (h:zs.length=0∨pw (zs.length - 1)≤val zs):can zs:=by
 refine ⟨hl,?_⟩;rcases h with h | h
 · exact Or.inl h
 · by_cases h0:zs.length=0
   · exact Or.inl h0
   · refine Or.inr fun e => ?_
     obtain ⟨k,hk⟩:∃ k,zs.length=k+1:=⟨zs.length - 1,by omega⟩;have e1:zs=zs.take (k+1):=by rw [← hk,List.take_length]
     have h1:val zs=val (zs.take k)+zs.getD k 0*pw k:=by rw [← val_take_succ zs k (by omega),← e1]
     have h2:=(val_bound (lim_take hl k)).2;have lk:(zs.take k).length=k:=by simp;omega
     rw [hk] at e h;simp only [Nat.add_sub_cancel] at e h;rw [e] at h1;rw [lk] at h2;omega
theorem val_ext (xs:List Int) (n:Nat):val (xs++List.replicate n 0)=val xs:=by rw [val_append,val_replicate];simp
theorem box_grown {B ty:Nat} {w w1:World} {u:Value} {row:Option Nat} (h:Box w B ty u) (hg:w.drew.grownBy w1 row) (hne:row≠some B):Box w1 B ty u:=by
 unfold Box;rw [hg.block B (lt_of_block h) (fun e=>hne e.symm)];exact h
theorem box_set {B ty g:Nat} {w:World} {u:Value} (h:Box w B ty u) (hne:g≠B) (o:Nat) (x:Value):Box (w.setCell ⟨g,o,none⟩ x) B ty u:=by
 unfold Box;rw [Below.heap_setCell _ _ _ _ (fun e=>hne e.symm)];exact h
theorem ext_rel {base B ty g cap m c:Nat} {a:Option Addr} {w w1:World} {xs:List Int} (hty:ty≠100) (hbs:base≤w.heap.size) (hBb:base≤B) (hown:Own base w (.slice a xs.length c) xs) (hb1:Box w1 B ty (.slice a xs.length c))
    (hown1:w1.ownsRow base 100 1 (.slice (some ⟨g,0,none⟩) (xs.length+(m - xs.length)) cap) (xs.length+(m - xs.length)) (xs.map (Value.int .u32)++List.replicate (m - xs.length) (Value.int .u32 0)))
    (hgrow1:w.drew.grownBy w1 (Value.slice a xs.length c).ownBlock) :
    ∃ (us:List Int) (a2:Option Addr) (c2:Nat),Box (w1.setCell ⟨B,0,none⟩ (.slice (some ⟨g,0,none⟩) (xs.length+(m - xs.length)) cap)) B ty (.slice a2 us.length c2)∧Own base (w1.setCell ⟨B,0,none⟩ (.slice (some ⟨g,0,none⟩) (xs.length+(m - xs.length)) cap)) (.slice a2 us.length c2) us∧Hid (us.length=max xs.length m)∧Hid (val us=val xs)∧Below base w (w1.setCell ⟨B,0,none⟩ (.slice (some ⟨g,0,none⟩) (xs.length+(m - xs.length)) cap)):=by
 have hl:(xs++List.replicate (m - xs.length) (0:Int)).length=xs.length+(m - xs.length):=by simp
 have hO:Own base w1 (.slice (some ⟨g,0,none⟩) (xs.length+(m - xs.length)) cap) (xs++List.replicate (m - xs.length) 0):=by
  refine ⟨lim_append.2 ⟨hown.lim,lim_replicate _⟩,?_⟩;rw [hl,List.map_append,List.map_replicate];exact hown1
 refine ⟨xs++List.replicate (m - xs.length) 0,some ⟨g,0,none⟩,cap,?_,?_,?_,val_ext _ _,?_⟩
 · rw [hl];exact one_setCell hb1
 · rw [hl];exact hO.setCell (own_box_ne hb1 hO hty) _
 · unfold Hid;rw [hl];omega
 · exact ((Below.refl _ w).drew.grown hgrow1 hbs (fun k hk=>(hown.2.lt k hk).1)).setCell hBb _
theorem add_walk {base B ty Br:Nat} {w:World} {xs ys:List Int} (m bc:Nat) (ba:Option Addr) (hy:Hid (ys.length=m)) (ly:lim ys) (hty:ty≠100) (hs:St base w B ty xs) (hBr:Br≤base)
    (hn:xs.length≤17592186044415) (hm:m≤17592186044415)
    (kb:0<m→∃ g o,ba=some ⟨g,o,none⟩∧g<base∧∀ j,j<m→w.cell? ⟨g,o+j,none⟩=some (.int .u32 (ys.getD j 0))) :
    Calls Tryz.prog 155 #[.pointer (some ⟨B,0,none⟩),.slice ba m bc] w fun e w'=>e=.returned (.tuple #[])∧∃ zs,val zs=val xs+val ys∧zs.length≤max xs.length m+1∧(zs.length≤max xs.length m∨pw (zs.length - 1)≤val zs)∧St base w' B ty zs∧Below base w w':=by
 obtain ⟨a,c,hbox,hown,hBb,hbs⟩:=hs;obtain ⟨i0,hi,hz0,hz1,hz2⟩:=info_parts info_u32;have hne:=own_box_ne hbox hown hty;have hlt:=lt_of_block hbox;have hc:=cell_of_one hbox;have hf:=free_of_one hbox;go_enter Tryz.func155,Tryz.ntmps155
 go_upto_if 15 with fail
 go_cut [15] (fun s wc=>∃ (us:List Int) (a2:Option Addr) (c2:Nat),Box wc B ty (.slice a2 us.length c2)∧Own base wc (.slice a2 us.length c2) us∧Hid (us.length=max xs.length m)∧Hid (val us=val xs)∧Below base w wc)
 case first=>
  by_cases hext:xs.length<m
  · go_wp2
    go_region_law ((refine step_append_own_zeros rfl _ _ 22 3 rfl base 100 i0 (.int .u32 0) .i64 .i64 Tryz.underlying22 Tryz.underlying3 hi hz0 hz1 rfl rfl _ xs.length (xs.map (Value.int .u32)) rfl (by first | exact hown.2 | exact hown.2.drew) (m - xs.length) _ rfl (by rw [IntKind.wrap_i64];omega) (by omega) (by unfold maxLen;omega) (by rw [hz2];omega) (by simp;omega) ?_;intro g cap w1 hown1 hgrow1;have hb1:=box_grown hbox hgrow1 hne;have hc1:=cell_of_one hb1;have hf1:=free_of_one hb1))
    all_goals
     go_wp2
     go_meet
     case rel=>exact ext_rel hty hbs hBb hown hb1 hown1 hgrow1
  · go_wp2
    go_meet
    case rel=>exact ⟨xs,a,c,hbox,hown,by unfold Hid;omega,rfl,Below.refl _ _⟩
 case rest=>
  obtain ⟨us,a2,c2,hbox2,hown2,hul,huv,hbl⟩:=hcut;clear hbox hown hne hc hf;have hc2:=cell_of_one hbox2;have hf2:=free_of_one hbox2;have hLb:us.length≤17592186044415:=by have:=hul.out;omega
  have hLm:m≤us.length:=by have:=hul.out;omega
  generalize hL:us.length=L at *;have HL:Hid (us.length=L):=hL;clear hL;go_wp2
  go_loopw [41,4] (fun s cr wr=>∃ (i:Nat) (C:Int) (vs:List Int),i≤L∧s=.int .i64 i∧cr=.int .u64 C∧0≤C∧C≤1∧Hid (vs.length=L)∧Own base wr (.slice a2 L c2) vs∧Box wr B ty (.slice a2 L c2)∧Below base w wr∧Hid (val vs+C*pw i=val xs+val (ys.take i)))
   (fun s _ _=>L - (intOf s).toNat)
  case atStart=>exact ⟨0,0,us,Nat.zero_le _,rfl,rfl,by omega,by omega,HL,hown2,hbox2,hbl,by unfold Hid;rw [huv.out];simp [val]⟩
  case round=>
   obtain ⟨i,C,vs,hiL,rfl,rfl,hC0,hC1,hvl,hown3,hbox3,hbl3,hval3⟩:=hrel;have hc3:=cell_of_one hbox3;clear hc2 hf2 hbox2 hown2 hbl;have hsz3:=hbl3.size;by_cases hlt2:i<L
   · rcases hown3.shape with ⟨hnil,hnil2⟩ | ⟨g,cap,hv,hgb,hgs,_,_⟩
     · have:=hvl.out;rw [hnil2] at this;simp at this;omega
     have ha2:a2=some ⟨g,0,none⟩:=by
      have:=congrArg (fun v:Value=>match v with | .slice a _ _=>a | _=>none) hv
      exact this
     clear hv;subst ha2;have hcv:=hown3.cellAt hvl.out i hlt2;have hfv:=hown3.frozenAt hvl.out i;have rv:=lim_getD hown3.lim i;have hneB:=own_box_ne hbox3 hown3 hty;have hneB':g≠B:=fun e=>hneB (by rw [e];rfl);generalize hV:vs.getD i 0=V at *;have HV:Hid (vs.getD i 0=V):=hV;clear hV;by_cases him:i<m
     · obtain ⟨gb,ob,hba,hgb2,hbc⟩:=kb (by omega)
       subst hba;have hcy:wr.cell? ⟨gb,ob+i,none⟩=some (.int .u32 (ys.getD i 0)):=(hbl3.cell hgb2).trans (hbc i him);have ry:=lim_getD ly i;generalize hY:ys.getD i 0=Y at *;have HY:Hid (ys.getD i 0=Y):=hY;clear hY hbc kb;have hS:=hown3.stored hvl.out i ((V+C+Y) % 4294967296) (by omega);go_wp2
       go_roundw
       case rel=>exact ⟨i+1,(V+C+Y)/4294967296,vs.set i ((V+C+Y) % 4294967296),by omega,by go_num,rfl,by omega,by omega,(by unfold Hid;rw [List.length_set];exact hvl.out),hS,box_set hbox3 hneB' _ _,hbl3.setCell hgb _,add_step vs ys i C (val xs) _ (by rw [hvl.out];exact hlt2) hval3.out (by rw [HV.out,HY.out])⟩
       case measure=>simp [intOf];omega
     · have hY0:ys.getD i 0=0:=by simp [List.getD,List.getElem?_eq_none (show ys.length≤i by rw [hy.out];omega)]
       have HY:Hid (ys.getD i 0=0):=hY0;clear hY0 kb;by_cases hC:C=0
       · subst hC
         go_wp2
         refine bodyPost_ret (v:=.tuple #[]) (by simp [results,Tryz.results155,go_sem]) rfl ?_;refine ⟨rfl,vs,?_,?_,?_,⟨some ⟨g,0,none⟩,c2,?_,?_,hBb,by omega⟩,hbl3⟩
         · have h3:=hval3.out
           rw [List.take_of_length_le (show ys.length≤i by rw [hy.out];omega)] at h3;rw [← h3];simp
         · rw [hvl.out];have:=hul.out;omega
         · left;rw [hvl.out];have:=hul.out;omega
         · rw [hvl.out];exact hbox3
         · rw [hvl.out];exact hown3
       · have hCb:(C==0)=false:=by simpa using hC
         have hS:=hown3.stored hvl.out i ((V+C) % 4294967296) (by omega);go_wp2
         go_roundw
         case rel=>exact ⟨i+1,(V+C)/4294967296,vs.set i ((V+C) % 4294967296),by omega,by go_num,rfl,by omega,by omega,(by unfold Hid;rw [List.length_set];exact hvl.out),hS,box_set hbox3 hneB' _ _,hbl3.setCell hgb _,add_step vs ys i C (val xs) _ (by rw [hvl.out];exact hlt2) hval3.out (by rw [HV.out,HY.out];omega)⟩
         case measure=>simp [intOf];omega
   · obtain rfl:i=L:=by omega
     have hvl':=hvl.out;have hst:St base wr B ty vs:=⟨a2,c2,by rw [hvl'];exact hbox3,by rw [hvl'];exact hown3,hBb,by omega⟩;clear hvl' kb
     go_wp2_with fail
     refine (push_any C hC0 (by omega) hty hst (by rw [hvl.out];omega)).mono ?_;rintro e w2 ⟨rfl,hst2,hbl2⟩;go_wp2
     go_end0
     refine ⟨rfl,pushed vs C,?_,?_,?_,hst2,hbl3.trans hbl2⟩
     · rw [val_pushed,hvl.out,hval3.out,List.take_of_length_le (show ys.length≤i by rw [hy.out];omega)]
     · have h1:=hvl.out;have h2:=hul.out
       unfold pushed;split
       · omega
       · simp;omega
     · have h1:=hvl.out;have h2:=hul.out
       by_cases hC:C=0
       · left;unfold pushed;rw [if_pos hC];omega
       · right
         have h3:(pushed vs C).length=i+1:=by unfold pushed;rw [if_neg hC];simp;omega
         have h4:=(val_bound hown3.lim).1;have h5:C=1:=by omega
         rw [h3,val_pushed,h1,h5];simp only [Nat.add_sub_cancel];omega
/-- (*adder).add: the sum, right limbs. -/
theorem add_any {base B ty Br:Nat} {w:World} {bv:Value} {xs ys:List Int} (hty:ty≠100) (hs:St base w B ty xs) (cx:can xs) (hb:Rd Br w bv ys) (cy:can ys) (hBr:Br≤base) (hn:xs.length≤17592186044415) (hm:ys.length≤17592186044415) :
    Calls Tryz.prog 155 #[.pointer (some ⟨B,0,none⟩),bv] w fun e w'=>e=.returned (.tuple #[])∧∃ zs,can zs∧val zs=val xs+val ys∧zs.length≤max xs.length ys.length+1∧St base w' B ty zs∧Below base w w':=by
 obtain ⟨ly,ba,bc,rfl,_,_,_,kb⟩:=hb;refine (add_walk (Br:=Br) ys.length bc ba rfl ly hty hs hBr hn hm ?_).mono ?_
 · intro h0
   rcases kb with kb | ⟨g,o,ha,hg,hc⟩
   · omega
   · exact ⟨g,o,ha,by omega,hc⟩
 · rintro e w' ⟨rfl,zs,hv,hl,hlow,hst,hbl⟩
   refine ⟨rfl,zs,?_,hv,hl,hst,hbl⟩;have hlim:lim zs:=by obtain ⟨_,_,_,h,_⟩:=hst;exact h.lim
   refine can_of_low hlim ?_;rcases hlow with hlow | hlow
   · by_cases h0:zs.length=0
     · exact Or.inl h0
     · refine Or.inr ?_
       have vx:=(val_bound cx.1).1;have vy:=(val_bound cy.1).1;by_cases hc:xs.length≤ys.length
       · have:=can_low cy (by omega)
         have:=pw_mono (j:=zs.length - 1) (k:=ys.length - 1) (by omega);omega
       · have:=can_low cx (by omega)
         have:=pw_mono (j:=zs.length - 1) (k:=xs.length - 1) (by omega);omega
   · exact Or.inr hlow
theorem can_nil:can []:=⟨lim_nil,Or.inl rfl⟩
theorem sum_any {Lb k:Nat} {vs:List Value} {xss:List (List Int)} {w:World} (hm:Many w Lb k vs xss) (hk:k≤1000000) (hs:sumL xss≤17592180000000) :
    Calls Tryz.prog 119 #[.slice (some ⟨Lb,0,none⟩) k k] w fun e w'=>∃ zs,can zs∧val zs=sumV xss∧zs.length≤k+sumL xss∧Makes w e w' zs:=by
 go_enter Tryz.func119,Tryz.ntmps119;go_wp2
 go_loopw [8] (fun s wr=>∃ (i:Nat) (zs:List Int),i≤k∧s=.int .i64 i∧can zs∧Hid (val zs=sumV (xss.take i))∧Hid (zs.length≤i+sumL (xss.take i))∧St w.heap.size wr w.heap.size 145 zs∧Below w.heap.size w wr)
  (fun s _=>k - (intOf s).toNat)
 case atStart=>exact ⟨0,[],Nat.zero_le _,rfl,can_nil,rfl,by unfold Hid;simp,⟨none,0,heap_alloc_new _ _,⟨lim_nil,World.ownsRow_nil _ _ _ _⟩,Nat.le_refl _,by simp⟩,(Below.refl _ _).alloc (Nat.le_refl _) _⟩
 case round=>
  obtain ⟨i,zs,hik,rfl,hcan,hval,hlen,hst,hbl⟩:=hrel;by_cases hlt:i<k
  · have hcell:wr.cell? ⟨Lb,i,none⟩=some (vs.getD i (.bool false)):=(hbl.cell hm.lt).trans (hm.cell i hlt)
    have hrd:Rd w.heap.size wr (vs.getD i (.bool false)) (xss.getD i []):=(hm.rd i hlt).below hbl;have hml:=sumL_mono xss i;have HML:Hid (sumL (xss.take i)+(xss.getD i []).length≤sumL xss∧sumL (xss.take i)≤sumL xss):=hml;clear hml;generalize hV:vs.getD i (.bool false)=V at *;clear hV
    go_wp2_with fail
    refine (meant_rd hrd).mono ?_;rintro e w2 ⟨rfl,rfl⟩
    go_wp2_with fail
    refine (add_any (by decide) hst hcan hrd.meant (tr_can hrd.lim) (Nat.le_refl _) (by have:=HML.out;have:=hlen.out;omega) (by have:=HML.out;have:=tr_length_le (xss.getD i []);omega)).mono ?_;rintro e w2 ⟨rfl,us,hcu,hvu,hlu,hst3,hbl3⟩;go_wp2
    go_roundw
    case rel=>exact ⟨i+1,us,by omega,by go_num,hcu,(by unfold Hid;rw [hvu,hval.out,val_tr,sumV_succ xss i (by rw [hm.lx];exact hlt)]),(by unfold Hid;rw [sumL_succ xss i (by rw [hm.lx];exact hlt)];have:=hlen.out;have:=tr_length_le (xss.getD i []);omega),hst3,hbl.trans hbl3⟩
    case measure=>simp [intOf];omega
  · obtain rfl:i=k:=by omega
    obtain ⟨a2,c2,hbox,hown,_,hsz⟩:=hst;have hc2:=cell_of_one hbox;have hlt2:=lt_of_block hbox;go_wp2
    go_ret
    refine ⟨zs,hcan,?_,?_,a2,c2,rfl,hown,hbl⟩
    · rw [hval.out,← hm.lx,List.take_length]
    · have:=hlen.out;rw [← hm.lx,List.take_length,hm.lx] at this;exact this
theorem or_add (q v:Int) (hq:0≤q∧q<4294967296) (hv:0≤v∧v<4294967296):bits .or .u64 (q*4294967296) v=q*4294967296+v:=by
 obtain ⟨a,rfl⟩:=Int.eq_ofNat_of_zero_le hq.1;obtain ⟨b,rfl⟩:=Int.eq_ofNat_of_zero_le hv.1;have e:((a:Int)*4294967296)=((a*4294967296:Nat):Int):=by omega
 rw [e,bits_or_u64_nat _ _ (by omega) (by omega)];have h:a*4294967296 ||| b=a*4294967296+b:=by
  have:=Nat.two_pow_add_eq_or_of_lt (i:=32) (b:=b) (by omega) a;rw [Nat.mul_comm];exact this.symm
 rw [h];omega
/-- Nothing that was there has turned but block B and the row r. -/
structure Kept2 (w w':World) (B:Nat) (r:Option Nat):Prop where
 os:w'.os=w.os
 tape:w'.tape=w.tape
 output:w'.output=w.output
 size:w.heap.size≤w'.heap.size
 block:∀ k,k<w.heap.size→k≠B→some k≠r→w'.heap[k]? = w.heap[k]?
theorem Kept2.refl (w:World) (B:Nat) (r:Option Nat):Kept2 w w B r:=⟨rfl,rfl,rfl,Nat.le_refl _,fun _ _ _ _=>rfl⟩
theorem Kept2.drew {w w':World} {B:Nat} {r:Option Nat} (h:Kept2 w w' B r):Kept2 w w'.drew B r:=⟨h.os,h.tape,h.output,h.size,h.block⟩
theorem Kept2.setCell {w w':World} {B:Nat} {r:Option Nat} (h:Kept2 w w' B r) {p:Addr} (hp:p.block=B∨some p.block=r) (u:Value):Kept2 w (w'.setCell p u) B r:=
 ⟨h.os,h.tape,h.output,by simp [World.setCell];exact h.size,fun k hk hB hr=>by
  rw [Below.heap_setCell _ _ _ _ (fun e=>by subst e;rcases hp with hp | hp;exact hB hp;exact hr hp)];exact h.block k hk hB hr⟩
theorem Kept2.below {w w':World} {B base:Nat} {r:Option Nat} (h:Kept2 w w' B r) (hB:base≤B) (hbs:base≤w.heap.size) (hr:∀ k,r=some k→base≤k):Below base w w':=
 ⟨h.os,h.tape,h.output,h.size,fun k hk=>h.block k (by omega) (by omega) (fun e=>by have:=hr k e.symm;omega)⟩
theorem Own.drew {base:Nat} {w:World} {v:Value} {xs:List Int} (h:Own base w v xs):Own base w.drew v xs:=h
theorem Box.drew {B ty:Nat} {w:World} {v:Value} (h:Box w B ty v):Box w.drew B ty v:=h
theorem div_step (xs vs:List Int) (j:Nat) (d q t:Int) (hj:j<xs.length) (hl:vs.length=xs.length) (hd0:0<d) (ht:vs.take (j+1)=xs.take (j+1)) (h:val (xs.drop (j+1))=d*val (vs.drop (j+1))+q) (he:t=q*4294967296+vs.getD j 0) :
    (vs.set j (t/d)).take j=xs.take j∧val (xs.drop j)=d*val ((vs.set j (t/d)).drop j)+t % d:=by
 have e1:xs.drop j=xs.getD j 0 :: xs.drop (j+1):=by rw [List.drop_eq_getElem_cons hj];simp [List.getD,hj]
 have hj2:j<vs.length:=by omega
 have e2:(vs.set j (t/d)).drop j=t/d :: vs.drop (j+1):=by
  rw [List.drop_eq_getElem_cons (by simpa using hj2)];simp [List.drop_set]
 have e3:vs.getD j 0=xs.getD j 0:=by
  have h1:(vs.take (j+1)).getD j 0=vs.getD j 0:=by simp only [List.getD,List.getElem?_take];rw [if_pos (by omega)]
  have h2:(xs.take (j+1)).getD j 0=xs.getD j 0:=by simp only [List.getD,List.getElem?_take];rw [if_pos (by omega)]
  rw [← h1,← h2,ht]
 constructor
 · have h1:vs.take j=xs.take j:=by
    have:=congrArg (List.take j) ht;rw [List.take_take,List.take_take] at this;have e:min j (j+1)=j:=by omega
    rw [e] at this;exact this
   rw [List.take_set_of_le (Nat.le_refl _)];exact h1
 · have hd:d*(t/d)+t % d=t:=Int.mul_ediv_add_emod t d
   rw [e1,e2];simp only [val,h];rw [e3] at he;generalize t/d=u at *;generalize t % d=r at *;simp only [Int.mul_add,Int.mul_left_comm];omega
theorem divLimb_walk {base B ty:Nat} {w:World} {xs:List Int} (a:Option Addr) (c L:Nat) (d:Int) (hd0:0<d) (hd1:d<4294967296) (hty:ty≠100) (hxl:Hid (xs.length=L)) (hbox:Box w B ty (.slice a L c)) (hown:Own base w (.slice a L c) xs)
    (hn:L≤17592186044415) :
    Calls Tryz.prog 183 #[.pointer (some ⟨B,0,none⟩),.int .u32 d] w fun e w'=>e=.returned (.int .u32 (val xs % d))∧∃ zs,can zs∧val zs=val xs/d∧zs.length≤xs.length∧Box w' B ty (.slice a zs.length c)∧Own base w' (.slice a zs.length c) zs∧Kept2 w w' B (Value.slice a L c).ownBlock:=by
 have hc:=cell_of_one hbox;have hf:=free_of_one hbox;have lx:=hown.lim;go_enter Tryz.func183,Tryz.ntmps183;go_wp2
 go_loopw [6,5] (fun s r wr=>∃ (j:Nat) (q:Int) (vs:List Int),j≤L∧s=.int .i64 ((j:Int) - 1)∧r=.int .u64 q∧0≤q∧q<d∧Hid (vs.length=L)∧Own base wr (.slice a L c) vs∧Box wr B ty (.slice a L c)∧Kept2 w wr B (Value.slice a L c).ownBlock∧Hid (vs.take j=xs.take j)∧Hid (val (xs.drop j)=d*val (vs.drop j)+q))
  (fun s _ _=>(intOf s+1).toNat)
 case atStart=>exact ⟨L,0,xs,Nat.le_refl _,by go_num,rfl,by omega,hd0,hxl,hown,hbox,Kept2.refl _ _ _,rfl,by unfold Hid;rw [List.drop_of_length_le (by rw [hxl.out];omega)];simp [val]⟩
 case round=>
  obtain ⟨j,q,vs,hjL,rfl,rfl,hq0,hq1,hvl,hown3,hbox3,hbl3,htake,hval3⟩:=hrel;have hc3:=cell_of_one hbox3;clear hc hf hbox hown;have hsz3:=hbl3.size
  cases j with
  | zero=>
   have hvl':=hvl.out;have hrd:=hown3.rd;have hx0:val xs=d*val vs+q:=hval3.out;have HX0:Hid (val xs=d*val vs+q):=hx0;clear hvl' hx0
   go_wp2_with fail
   refine (trimM_any hbox3 hrd).mono ?_;rintro e w2 ⟨rfl,rfl⟩;go_wp2
   go_ret
   have hM:=hown3.meant;have hv5:vtake (.slice a L c) (tl vs vs.length)=.slice a (tr vs).length c:=by rw [tr_length];rfl
   rw [hv5] at hM ⊢;have hvq:val vs=val xs/d∧q=val xs % d:=by
    rw [HX0.out];exact ⟨(by rw [Int.add_comm,Int.add_mul_ediv_left _ _ (by omega),Int.ediv_eq_zero_of_lt hq0 hq1];simp),(by rw [Int.add_comm,Int.add_mul_emod_self_left,Int.emod_eq_of_lt hq0 hq1])⟩
   refine ⟨ret_int hvq.2,tr vs,tr_can hown3.lim,by rw [val_tr];exact hvq.1,?_,one_setCell hbox3,hM.setCell (own_box_ne hbox3 hM hty) _,hbl3.setCell (Or.inl rfl) _⟩;have h1:=tr_length_le vs;have h2:=hvl.out;have h3:=hxl.out;omega
  | succ j=>
   rcases hown3.shape with ⟨hnil,hnil2⟩ | ⟨g,cap,hv,hgb,hgs,_,_⟩
   · have:=hvl.out;rw [hnil2] at this;simp at this;omega
   have ha2:a=some ⟨g,0,none⟩:=by
    have:=congrArg (fun v:Value=>match v with | .slice a _ _=>a | _=>none) hv
    exact this
   clear hv;subst ha2;have hcv:=hown3.cellAt hvl.out j (by omega);have hfv:=hown3.frozenAt hvl.out j;have rv:=lim_getD hown3.lim j;have hneB:=own_box_ne hbox3 hown3 hty;have hneB':g≠B:=fun e=>hneB (by rw [e];rfl);generalize hV:vs.getD j 0=V at *;have HV:Hid (vs.getD j 0=V):=hV;clear hV;have ej:((j+1:Nat):Int) - 1=(j:Int):=by omega
   rw [ej];clear ej;have hor:=or_add q V (by omega) rv;have hT0:0≤q*4294967296+V:=by omega
   have hT1:q*4294967296+V<18446744073709551616:=by omega
   have hT2:(q*4294967296+V)/d<4294967296:=Int.ediv_lt_of_lt_mul hd0 (by
    have h1:(q+1)*4294967296≤d*4294967296:=Int.mul_le_mul_of_nonneg_right (by omega) (by omega);rw [Int.mul_comm 4294967296];omega)
   have hT3:0≤(q*4294967296+V)/d:=Int.ediv_nonneg hT0 (by omega);have hT4:0≤(q*4294967296+V) % d:=Int.emod_nonneg _ (by omega);have hT5:(q*4294967296+V) % d<d:=Int.emod_lt_of_pos _ hd0;have hdne:(d==0)=false:=by simp;omega
   have hS:=hown3.stored hvl.out j ((q*4294967296+V)/d) ⟨hT3,hT2⟩;have hst:=div_step xs vs j d q (q*4294967296+V) (by rw [hxl.out];omega) (by rw [hxl.out,hvl.out]) hd0 htake.out hval3.out (by rw [HV.out]);have HST:Hid ((vs.set j ((q*4294967296+V)/d)).take j=xs.take j∧val (xs.drop j)=d*val ((vs.set j ((q*4294967296+V)/d)).drop j)+(q*4294967296+V) % d):=hst;clear hst;go_wp2
   go_region
   go_wp2
   go_roundw
   case rel=>exact ⟨j,(q*4294967296+V) % d,vs.set j ((q*4294967296+V)/d),by omega,by go_num,rfl,hT4,hT5,(by unfold Hid;rw [List.length_set];exact hvl.out),hS.drew,(box_set hbox3 hneB' _ _).drew,(hbl3.setCell (p:=⟨g,j,none⟩) (Or.inr rfl) _).drew,HST.out.1,HST.out.2⟩
   case measure=>simp [intOf]
theorem begin_any {B:Nat} {w:World} {v:Value} {xs:List Int} (h:Rd B w v xs) (hB:B≤w.heap.size) (hsz:xs.length*4≤140737488355328) :
    Calls Tryz.prog 179 #[v] w fun e w'=>BoxMakes w e w' (tr xs):=by
 have hr:Rd B (w.alloc (.cells #[.slice none 0 0] 116)) v xs:=h.below ((Below.refl _ _).alloc hB _);go_enter Tryz.func179,Tryz.ntmps179
 go_wp2_with fail
 refine (trim_rd hr hsz).mono ?_;intro e w1 hm;obtain ⟨a,c,rfl,ho,hb⟩:=hm;have hz:w.heap.size<w1.heap.size:=by have:=hb.size;simp at this;omega
 have hbx:Box w1 w.heap.size 116 (.slice none 0 0):=by unfold Box;rw [hb.block _ (by simp)];exact heap_alloc_new _ _
 have hc:=cell_of_one hbx;have hf:=free_of_one hbx;have hs:∀ u,(w1.setCell ⟨w.heap.size,0,none⟩ u).cell? ⟨w.heap.size,0,none⟩=some u:=fun u=>cell_of_one (one_setCell (u:=u) hbx);generalize hN:(tr xs).length=N at *;have HN:Hid ((tr xs).length=N):=hN;clear hN hbx;go_wp2
 refine bodyPost_ret (v:=.agg #[.slice a N c]) (by simp [results,Tryz.results179,go_sem,hz,hs]) rfl ?_;obtain rfl:=HN.out;exact ⟨a,c,rfl,((ho.mono (by simp)).setCell (ownBlock_ne ho (by simp)) _),(((Below.refl _ w).alloc (Nat.le_refl _) _).trans (hb.mono (by simp))).setCell (Nat.le_refl _) _⟩
/-- What (*divider).by leaves of xs by ys: the quotient, of the call's own, and what is left in the variable. -/
def Divides (base:Nat) (w:World) (B ty:Nat) (xs ys:List Int) (e:Ending) (w':World):Prop:=
 ∃ qs rs a c,e=.returned (.slice a qs.length c)∧Own base w' (.slice a qs.length c) qs∧can qs∧can rs∧St base w' B ty rs∧val xs=val qs*val ys+val rs∧val rs<val ys∧qs.length≤xs.length∧rs.length≤xs.length∧Below base w w'
theorem of_limb (r:Int) (h0:0≤r) (h1:r<4294967296):val (tr [r % 4294967296,r/4294967296])=r∧can (tr [r % 4294967296,r/4294967296])∧(tr [r % 4294967296,r/4294967296]).length≤1:=by
 have hl:lim [r % 4294967296,r/4294967296]:=by
  intro x hx;simp at hx;omega
 refine ⟨by rw [val_tr];simp only [val];omega,tr_can hl,?_⟩;rw [tr_length];have e:r/4294967296=0:=by omega
 show tl [r % 4294967296,r/4294967296] (1+1)≤1;rw [tl_zero _ _ (by simpa using e)];exact tl_le _ _
/-- (*divider).by divides as it should by ys. -/
def ByOK (ys:List Int):Prop:=∀ (base B ty Br:Nat) (w:World) (bv:Value) (xs:List Int),ty≠100→St base w B ty xs→can xs→xs.length≤17592186044415→Rd Br w bv ys→Br≤base →
 Calls Tryz.prog 159 #[.pointer (some ⟨B,0,none⟩),bv] w fun e w'=>Divides base w B ty xs ys e w'
/-- What nat.DivMod hands back where the divisor is not 0. -/
def DivMods (w:World) (xs ys:List Int) (e:Ending) (w':World):Prop:=
 ∃ qs rs a c a2 c2,e=.returned (.tuple #[.slice a qs.length c,.slice a2 rs.length c2,.bool true])∧Own w.heap.size w' (.slice a qs.length c) qs∧Own w.heap.size w' (.slice a2 rs.length c2) rs∧can qs∧can rs∧val xs=val qs*val ys+val rs∧val rs<val ys∧qs.length≤xs.length∧rs.length≤xs.length∧Below w.heap.size w w'
theorem below_drewN' {B:Nat} {a w:World} (h:Below B a w) (n:Nat):Below B a (w.drewN n):=h.trans ⟨rfl,rfl,rfl,Nat.le_refl _,fun _ _=>rfl⟩
theorem divMod_pos {B1 B2:Nat} {w:World} {v1 v2:Value} {xs ys:List Int} (h1:Rd B1 w v1 xs) (hB1:B1≤w.heap.size) (h2:Rd B2 w v2 ys) (hB2:B2≤w.heap.size) (hy:¬ val ys=0) (hby:ByOK (tr ys)) (hn:xs.length≤17592186044415) (hm:ys.length≤17592186044415) :
    Calls Tryz.prog 153 #[v1,v2] w fun e w'=>DivMods w xs ys e w':=by
 have hm2:=meant_rd h2;have hr2:=h2.meant;have ct:=tr_can h2.lim;have hl0:¬ (tr ys).length=0:=by rw [can_zero ct,val_tr];exact hy
 have hl1:=tr_length_le ys;rw [← tr_length] at hm2 hr2;have hsh:∃ a c,vtake v2 (tr ys).length=.slice a (tr ys).length c:=by
  obtain ⟨_,a,c,rfl,_⟩:=h2;exact ⟨a,c,rfl⟩
 obtain ⟨ba,bc,hv⟩:=hsh;rw [hv] at hm2 hr2;clear hv;have hvt:=val_tr ys;generalize tr ys=ys' at *;generalize hM:ys'.length=m at *;have HM:Hid (ys'.length=m):=hM;have HVT:Hid (val ys'=val ys):=hvt;have hmb:((m:Int)==0)=false:=by simp;omega
 clear hM hvt;go_enter Tryz.func153,Tryz.ntmps153
 go_wp2_with fail
 refine (hm2).mono ?_;rintro e w' ⟨rfl,rfl⟩
 go_wp2_with fail
 refine (begin_any h1 hB1 (by omega)).mono ?_;intro e w1 hm1;obtain ⟨a,c,rfl,ho,hb⟩:=hm1;have hz:=hb.size;have hl2:=tr_length_le xs;have cx:=tr_can h1.lim;have hvx:=val_tr xs;generalize tr xs=xs' at *;have HVX:Hid (val xs'=val xs):=hvx;clear hvx
 go_wp2_with fail
 have hst:St w.heap.size (w1.alloc (.cells #[.slice a xs'.length c] 118)) w1.heap.size 118 xs':=⟨a,c,heap_alloc_new _ _,ho.alloc _,hz,by simp;omega⟩;have hr3:Rd B2 (w1.alloc (.cells #[.slice a xs'.length c] 118)) (.slice ba m bc) ys':=hr2.below ((hb.mono hB2).alloc (by omega) _);refine (hby _ _ _ _ _ _ _ (by decide) hst cx (by omega) hr3 hB2).mono ?_;rintro e w2 ⟨qs,rs,a2,c2,rfl,hq,cq,cr,⟨a3,c3,hbox3,hown3,_,hbs3⟩,hval,hlt,hql,hrl,hbl2⟩;have hc3:=cell_of_one hbox3;have hlt3:=lt_of_block hbox3;go_wp2
 go_quiet (fail)
 go_wp2
 go_ret3
 refine ⟨qs,rs,a2,c2,a3,c3,rfl,hq,hown3,cq,cr,?_,?_,by omega,by omega,?_⟩
 · rw [← HVX.out,← HVT.out];exact hval
 · rw [← HVT.out];exact hlt
 · exact below_drewN' ((hb.alloc hz _).trans hbl2) _
end
end Go.Proofs.YtilbfkabfgnhpaaGreat
