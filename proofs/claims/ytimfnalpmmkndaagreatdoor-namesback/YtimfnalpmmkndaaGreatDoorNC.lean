/- slices.Clone of texts and of ints, of whatever length. -/
import Derived.Test.YtimfnalpmmkndaaGreatDoorSA
import Derived.Test.YtimfnalpmmkndaaGreatDoorTA
set_option maxRecDepth 100000
set_option maxHeartbeats 4000000
set_option linter.unusedVariables false
set_option linter.unusedSimpArgs false
namespace Go.Proofs.YtimfnalpmmkndaaGreatDoor
open Go.RowKit
variable {D:Nat→Prop} {w:World} {v:Value} {ss:List ByteArray}
def RdT (D:Nat→Prop) (w:World) (v:Value) (ss:List ByteArray):Prop:=∃ a c,v=.slice a ss.length c∧ss.length≤c∧c≤9223372036854775807∧(a=none→c=0)∧(ss=[]∨∃ g o,a=some ⟨g,o,none⟩∧D g∧∀ j,j<ss.length→w.cell? ⟨g,o+j,none⟩=some (.string (ss.getD j noT)))
theorem RdT.imp {D':Nat→Prop} {w':World} (h:RdT D w v ss) (hD:∀ g,D g→D' g) (hb:Agree D w w'):RdT D' w' v ss:=by
 obtain ⟨a,c,rfl,h1,h2,h3,h4⟩:=h;refine ⟨a,c,rfl,h1,h2,h3,?_⟩;rcases h4 with h4 | ⟨g,o,rfl,h5,h6⟩
 · exact Or.inl h4
 · refine Or.inr ⟨g,o,rfl,hD g h5,fun j hj => ?_⟩
   rw [← h6 j hj];simp [World.cell?,hb g h5]
theorem RdT.rd {B:Nat} (h:RdT D w v ss) (hD:∀ g,D g→g<B):RdS B w v ss:=by
 obtain ⟨a,c,rfl,h1,h2,h3,h4⟩:=h;refine ⟨a,c,rfl,h1,h2,h3,?_⟩;rcases h4 with h4 | ⟨g,o,rfl,h5,h6⟩
 · exact Or.inl h4
 · exact Or.inr ⟨g,o,rfl,hD g h5,h6⟩
theorem RdT.of_own {base:Nat} (h:OwS base w v ss):RdT (Fr base w.heap.size) w v ss:=by
 have h':=h;obtain ⟨h1,⟨hv,hn⟩ | ⟨g,cap,cur,hv,hg,hh,r1,r2,r3,r4⟩⟩:=h'
 · have:ss=[]:=List.eq_nil_of_length_eq_zero hn
   subst this;rw [hv];exact ⟨none,0,rfl,by simp,by omega,fun _=>rfl,Or.inl rfl⟩
 · subst hv
   refine ⟨some ⟨g,0,none⟩,cap,rfl,r1,r2,(fun e=>by cases e),Or.inr ⟨g,0,rfl,⟨hg,lt_of_block hh⟩,fun j hj => ?_⟩⟩;rw [Nat.zero_add,World.ownsRow.cellAt h j (by omega)];exact getD_mapS hj
theorem sl_nilI (w:World) (a:Option Addr) (n c:Nat):(binOp .eql 26 (.slice a n c) (.slice none 0 0)).run Tryz.prog w=.ok (.bool a.isNone) w:=Lib.run_eql_slice_nil w 26 3 a n c 0 0 Tryz.underlying26
theorem cloneT_any {a:Option Addr} {c:Nat} (h:RdT D w (.slice a ss.length c) ss) (hD:∀ g,D g→g<w.heap.size) (hl:ss.length≤8796093022208) :
    Calls Tryz.prog 56 #[.slice a ss.length c] w fun e w'=>∃ a' c',e=.returned (.slice a' ss.length c')∧RdT (Fr w.heap.size w'.heap.size) w' (.slice a' ss.length c') ss∧Below w.heap.size w w':=by
 have HR:Hid (RdS w.heap.size w (.slice a ss.length c) ss):=h.rd hD;have hz:a=none→ss=[]:=by
  intro e;obtain ⟨a1,c1,h0,h1,_,h3,_⟩:=h;obtain ⟨rfl,_,rfl⟩:=Value.slice.inj h0;have:=h3 e;exact List.eq_nil_of_length_eq_zero (by omega)
 clear h;have hnil:=sl_nil
 cases a with
 | none=>
  have:=hz rfl;subst this;clear HR hz;go_enter Tryz.func56,Tryz.ntmps56;go_wp2
  go_ret
  exact ⟨none,0,rfl,⟨none,0,rfl,by simp,by omega,fun _=>rfl,Or.inl rfl⟩,Below.refl _ _⟩
 | some p=>
  clear hz;go_enter Tryz.func56,Tryz.ntmps56
  go_wp2_with (at_builtin;refine append_strs rfl _ _ rfl rfl rfl (base:=w.heap.size) (xs:=[]) (owS_empty w) (HR.out.below (below_alloc w _) (Nat.le_refl _)) (by simp;omega) (by simp) ?_)
  intro v' w' hO hgr;obtain ⟨a',c',rfl⟩:=row_form2S hO;have hb:Below w.heap.size w w':=(below_alloc w _).grown hgr (by simp) (fun k hk=>by cases hk;exact Nat.le_refl _);have HO:=RdT.of_own hO;have HO':Hid _:=HO;clear hO HO hgr;go_wp2
  go_ret
  exact ⟨a',c',rfl,HO'.out,hb⟩
theorem owN_empty (w:World):(w.alloc (.cells #[] 3)).ownsRow w.heap.size 3 1 (.slice (some ⟨w.heap.size,0,none⟩) 0 0) 0 []:=⟨rfl,Or.inr ⟨w.heap.size,0,#[],rfl,Nat.le_refl _,heap_alloc_new w _,Nat.le_refl _,by unfold maxLen;omega,rfl,rfl⟩⟩
theorem append_emptyN {w0:World} {g0:Nat} {ops:Array Oper} {rest:List Oper} {o:Oper} {a:Act} {Q:Exit→Act→World→Prop} {a1:Option Addr} {c1:Nat} {ns:List Int} (hgd:o.guard=none) (s x:Operand)
    (ho:o.op=.call { callee:=.builtin .append,args:=#[s,x],argTypes:=#[26,26] }) (hs:a.eval s=.slice (some ⟨g0,0,none⟩) 0 0) (hO:w.ownsRow w0.heap.size 3 1 (.slice (some ⟨g0,0,none⟩) 0 0) 0 []) (hk:Below w0.heap.size w0 w) (hx:a.eval x=.slice a1 ns.length c1) (hR:RdN D w (.slice a1 ns.length c1) ns) (hl:ns.length*8≤140737488355328)
    (h:∀ x1 y1 w',RdN (Fr w0.heap.size w'.heap.size) w' (.slice x1 ns.length y1) ns→Below w0.heap.size w0 w'→wpList Tryz.prog ops Q rest (a.put o.dst (.slice x1 ns.length y1)) w'):wpList Tryz.prog ops Q (o :: rest) a w:=by
 obtain ⟨i0,hi,hz0,hz1,hz2⟩:=info_parts info_int3;have hlim:=hR.1;have hg0:w0.heap.size≤g0:=by
  obtain ⟨_,⟨hv,_⟩ | ⟨g,cap,cur,hv,hg,_⟩⟩:=hO
  · cases hv
  · obtain ⟨e1,_,_⟩:=Value.slice.inj hv
    cases e1;exact hg
 rcases rdN_parts hR with ⟨rfl,rfl,rfl⟩ | ⟨ad,rfl,hN⟩
 · exact wpList_append_own_none hgd s x 26 ho w0.heap.size 3 i0 1 Tryz.underlying26 hi _ 0 [] hs hO hx (h _ 0 w ⟨hlim,_,0,rfl,Nat.le_refl _,by omega,fun _=>rfl,Or.inl rfl⟩ hk)
 · refine wpList_append_own _ hgd s x 26 ho w0.heap.size 3 i0 (.int .i64 0) 1 8 Tryz.underlying26 hi hz0 hz1 hz2 rfl (by decide) _ 0 [] hs hO ad ns.length c1 (ns.map (Value.int .i64)) hx (by rw [List.length_map];omega) hN (ints_oneCell _ _) ?_ ?_ hk.size ?_
   · unfold maxLen;omega
   · omega
   intro v' w2 hown hgrow _;rw [Nat.zero_add,List.nil_append] at hown;obtain ⟨x1,y1,rfl⟩:=row_form3 hown;refine h x1 y1 w2 ?_ (hk.grown hgrow hk.size (fun k h=>by cases h;exact hg0));have hrow:=hown;obtain ⟨_,h | ⟨g,cap,cur,hv,hg,hh,h2,h3,_,_⟩⟩:=hown
   · obtain ⟨e1,e2⟩:=h
     obtain ⟨rfl,_,rfl⟩:=Value.slice.inj e1;exact ⟨hlim,none,0,rfl,by omega,by omega,fun _=>rfl,Or.inl e2⟩
   · obtain ⟨rfl,_,rfl⟩:=Value.slice.inj hv
     refine ⟨hlim,_,y1,rfl,h2,by unfold maxLen at h3;omega,(fun h=>by cases h),Or.inr ⟨g,0,rfl,⟨hg,lt_of_block hh⟩,fun j hj => ?_⟩⟩;have:=hrow.cellAt j (by omega);rw [getD_map_i64 ns j hj] at this;rw [Nat.zero_add];exact this
theorem cloneN_any {a:Option Addr} {c:Nat} {ns:List Int} (h:RdN D w (.slice a ns.length c) ns) (hD:∀ g,D g→g<w.heap.size) (hl:ns.length≤17592186044416) :
    Calls Tryz.prog 153 #[.slice a ns.length c] w fun e w'=>∃ a' c',e=.returned (.slice a' ns.length c')∧RdN (Fr w.heap.size w'.heap.size) w' (.slice a' ns.length c') ns∧Below w.heap.size w w':=by
 have hz:a=none→ns=[]:=by
  intro e;obtain ⟨_,a1,c1,h0,h1,_,h3,_⟩:=h;obtain ⟨rfl,_,rfl⟩:=Value.slice.inj h0;have:=h3 e;exact List.eq_nil_of_length_eq_zero (by omega)
 have HR:Hid (RdN D (w.alloc (.cells #[] 3)) (.slice a ns.length c) ns):=h.imp (fun _ h=>h) (fun g hg=>(below_alloc w (.cells #[] 3)).block g (hD g hg));have hlim:Hid (∀ x∈ns,-9223372036854775808≤x∧x≤9223372036854775807):=h.1;clear h;have hnil:=sl_nilI
 cases a with
 | none=>
  have:=hz rfl;subst this;clear HR hz hlim;go_enter Tryz.func153,Tryz.ntmps153;go_wp2
  go_ret
  exact ⟨none,0,rfl,⟨by simp,none,0,rfl,by simp,by omega,fun _=>rfl,Or.inl rfl⟩,Below.refl _ _⟩
 | some p=>
  clear hz;go_enter Tryz.func153,Tryz.ntmps153
  go_wp2_with (at_builtin;refine append_emptyN rfl _ _ rfl rfl (owN_empty w) (below_alloc w _) rfl HR.out (by omega) ?_)
  intro x1 y1 w' hO hb;have HO:Hid _:=hO;clear hO;go_wp2
  go_ret
  exact ⟨x1,y1,rfl,HO.out,hb⟩
end Go.Proofs.YtimfnalpmmkndaaGreatDoor
