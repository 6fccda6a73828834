/- Maps of functions, keyed by characters, that a call makes: laid entry by entry, and looked up. -/
import Derived.Test.YtheaeggecpfcbaaGreatJ1
import Derived.MapKept
import Derived.WideMake
set_option linter.unusedVariables false
set_option linter.unusedSimpArgs false
namespace Go.Proofs.YtheaeggecpfcbaaGreat
open Go.RowKit
/-- Block B is a map with just these entries. -/
def MapIs (w:World) (B:Nat) (l:List (Int×Value)):Prop:=∃ E n,w.heap[B]? = some (.map E n)∧E.toList.map (fun x=>(x.key,x.val))=l.map (fun p=>(Value.int .i32 p.1,p.2))
/-- All blocks but B stay, and there may be new ones. -/
structure Kp (B:Nat) (w w':World):Prop where
 os:w'.os=w.os
 tape:w'.tape=w.tape
 output:w'.output=w.output
 size:w.heap.size≤w'.heap.size
 block:∀ g,g<w.heap.size→g≠B→w'.heap[g]? = w.heap[g]?
theorem Kp.refl (B:Nat) (w:World):Kp B w w:=⟨rfl,rfl,rfl,Nat.le_refl _,fun _ _ _=>rfl⟩
theorem Kp.trans {B:Nat} {a b c:World} (h:Kp B a b) (k:Kp B b c):Kp B a c:=⟨k.os.trans h.os,k.tape.trans h.tape,k.output.trans h.output,Nat.le_trans h.size k.size,fun g hg hB=>(k.block g (Nat.lt_of_lt_of_le hg h.size) hB).trans (h.block g hg hB)⟩
theorem Kp.of_below {B:Nat} {w w':World} (h:Below w.heap.size w w'):Kp B w w':=⟨h.os,h.tape,h.output,h.size,fun g hg _=>h.block g hg⟩
theorem Kp.below {B C:Nat} {w w':World} (h:Kp B w w') (hC:C≤B) (hs:C≤w.heap.size):Below C w w':=⟨h.os,h.tape,h.output,h.size,fun g hg=>h.block g (by omega) (by omega)⟩
theorem Kp.cell {B g o:Nat} {w w':World} {v:Value} (h:Kp B w w') (hB:g≠B) (hc:w.cell? ⟨g,o,none⟩=some v):w'.cell? ⟨g,o,none⟩=some v:=by
 have hlt:g<w.heap.size:=by
  rcases Nat.lt_or_ge g w.heap.size with h' | h'
  · exact h'
  · simp [World.cell?,Array.getElem?_eq_none h'] at hc
 rw [World.cell?_of_block (w:=w) (h.block g hlt hB)];exact hc
theorem MapIs.new (w:World):MapIs (w.alloc (.map #[] 0)) w.heap.size []:=⟨#[],0,heap_alloc_new w _,rfl⟩
theorem MapIs.of_below {w w':World} {B:Nat} {l:List (Int×Value)} (h:MapIs w B l) (k:Below w.heap.size w w'):MapIs w' B l:=by
 obtain ⟨E,n,h1,h2⟩:=h;exact ⟨E,n,by rw [k.block B (lt_of_block h1)];exact h1,h2⟩
theorem keys_are {E:List MapEntry} {l:List (Int×Value)} (h:E.map (fun x=>(x.key,x.val))=l.map (fun p=>(Value.int .i32 p.1,p.2))):∀ x∈E,∃ p∈l,x.key=.int .i32 p.1∧x.val=p.2:=by
 intro x hx;have:(x.key,x.val)∈l.map (fun p=>(Value.int .i32 p.1,p.2)):=by rw [← h];exact List.mem_map_of_mem hx
 obtain ⟨p,hp,e⟩:=List.mem_map.1 this;exact ⟨p,hp,(Prod.mk.inj e).1.symm,(Prod.mk.inj e).2.symm⟩
section
variable {P:Program} {mty kt et:TypeId} {w:World} {B:Nat} {l:List (Int×Value)} {k:Int} {v:Value}
theorem MapIs.put (hm:P.underlying mty=some (.map kt et)) (hk:P.underlying kt=some (.int .i32)) (h:MapIs w B l) (hne:∀ p∈l,p.1≠k) :
    ∃ w',(Instr.mapUpdate mty (.map (some B)) (.int .i32 k) v).run P w=.ok () w'∧MapIs w' B (l++[(k,v)])∧Kp B w w'∧w'.heap.size=w.heap.size:=by
 obtain ⟨E,n,hb,hE⟩:=h;have hkeys:=keys_are hE;have hc:(Instr.checkKey false 10000 kt (.int .i32 k)).run P w=.ok () w:=MapKept.run_checkKey (k:=.int .i32 k) hk (by simp [MapKept.IsKey]) false 9999;have hf:Instr.findNow (.int .i32) (.int .i32 k) E.toList 0=some none:=by
  rcases MapKept.findNow_spec (d:=.int .i32) (k:=.int .i32 k) (by simp [MapKept.IsKey]) E.toList 0 (fun x hx=>by obtain ⟨p,_,e,_⟩:=hkeys x hx;rw [e];simp [MapKept.IsKey]) with ⟨h1,_⟩ | ⟨j,e,h1,h2,h3⟩
  · exact h1
  · obtain ⟨p,hp,e1,_⟩:=hkeys e (List.mem_of_getElem? h2)
    rw [e1] at h3
    cases h3
    exact absurd rfl (hne p hp)
 refine ⟨{ w with heap:=w.heap.setIfInBounds B (.map (E.push { key:=.int .i32 k,val:=v,born:=n }) (n+1)) },?_,⟨E.push { key:=.int .i32 k,val:=v,born:=n },n+1,?_,?_⟩,⟨rfl,rfl,rfl,by simp,fun g hg hgB => ?_⟩,by simp⟩
 · simp [Instr.mapUpdate,run_underlying hm,MapKept.run_getObj_map hb,hc,MapKept.run_findKey hk hf,MapKept.run_setObj_map _ hb,Result.andThen]
 · rw [Array.getElem?_setIfInBounds]
   simp [lt_of_block hb]
 · simp [hE]
 · rw [Array.getElem?_setIfInBounds]
   rw [if_neg (Ne.symm hgB)]
/-- What stands at a key. -/
def atKey (z:Value) (k:Int):List (Int×Value)→Value
 | []=>z
 | p :: l=>if p.1=k then p.2 else atKey z k l
theorem find_is {k:Int}:∀ (E:List MapEntry) (l:List (Int×Value)) (i:Nat),E.map (fun x=>(x.key,x.val))=l.map (fun p=>(Value.int .i32 p.1,p.2))→(Instr.findNow (.int .i32) (.int .i32 k) E i=some none∧∀ z,atKey z k l=z)∨∃ j v,Instr.findNow (.int .i32) (.int .i32 k) E i=some (some (j,v))∧∀ z,atKey z k l=v
 | [],[],_,_=>Or.inl ⟨rfl,fun _=>rfl⟩
 | [],_ :: _,_,h=>by simp at h
 | _ :: _,[],_,h=>by simp at h
 | x :: E,p :: l,i,h=>by
  simp only [List.map_cons,List.cons.injEq,Prod.mk.injEq] at h;obtain ⟨⟨h1,h2⟩,h3⟩:=h;by_cases hp:p.1=k
  · refine Or.inr ⟨i,x.val,?_,fun z => ?_⟩
    · simp [Instr.findNow,Instr.sameNow,h1,hp]
    · simp [atKey,hp,h2]
  · have hn:Instr.sameNow (.int .i32) (.int .i32 k) x.key=some false:=by rw [h1];simp [Instr.sameNow];exact fun e=>hp e.symm
    rcases find_is (k:=k) E l (i+1) h3 with ⟨g1,g2⟩ | ⟨j,v,g1,g2⟩
    · exact Or.inl ⟨by simp [Instr.findNow,hn,g1],fun z=>by simp [atKey,hp,g2]⟩
    · exact Or.inr ⟨j,v,by simp [Instr.findNow,hn,g1],fun z=>by simp [atKey,hp,g2]⟩
theorem MapIs.get {z:Value} (hm:P.underlying mty=some (.map kt et)) (hk:P.underlying kt=some (.int .i32)) (hz:(zeroValue et).run P w=.ok z w) (h:MapIs w B l):(Instr.lookup mty (.map (some B)) (.int .i32 k) false).run P w=.ok (atKey z k l) w:=by
 obtain ⟨E,n,hb,hE⟩:=h;have hc:(Instr.checkKey E.isEmpty 10000 kt (.int .i32 k)).run P w=.ok () w:=MapKept.run_checkKey (k:=.int .i32 k) hk (by simp [MapKept.IsKey]) _ 9999;rcases find_is (k:=k) E.toList l 0 hE with ⟨g1,g2⟩ | ⟨j,v,g1,g2⟩
 · rw [g2 z]
   simp [Instr.lookup,run_underlying hm,MapKept.run_getObj_map hb,hc,MapKept.run_findKey hk g1,hz,Result.andThen]
 · rw [g2 z]
   simp [Instr.lookup,run_underlying hm,MapKept.run_getObj_map hb,hc,MapKept.run_findKey hk g1,Result.andThen]
end
end Go.Proofs.YtheaeggecpfcbaaGreat
