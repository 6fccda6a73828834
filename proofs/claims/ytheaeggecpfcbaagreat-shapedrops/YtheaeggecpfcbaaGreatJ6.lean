/- Two numbers come in, a number goes out: the variables. rat.Sub, rat.Sign. -/
import Derived.Test.YtheaeggecpfcbaaGreatJ4
import Derived.Test.YtheaeggecpfcbaaGreatJ5
import Derived.Test.YtheaeggecpfcbaaGreatJ2
import Derived.Test.YtheaeggecpfcbaaGreatJ3
import Derived.Deep.RegionHeld3
set_option maxRecDepth 100000
set_option maxHeartbeats 16000000
set_option linter.unusedVariables false
set_option linter.unusedSimpArgs false
namespace Go.Proofs.YtheaeggecpfcbaaGreat
open Go.RowKit
section
variable {B:Nat} {w:World} {bx cy:Bool} {a1 a2 a3 a4:Option Addr} {c1 c2 c3 c4:Nat} {xn xd yn yd:List Int}
end
section
variable {B:Nat} {w:World} {bx cy:Bool} {a1 a2 a3 a4:Option Addr} {c1 c2 c3 c4:Nat} {xn xd yn yd:List Int}
end
theorem refTrim_nz (b off n cap:Nat) (xs:List Int) (w:World) (hn:Hid (xs.length=n+1)) (hl:lim xs) (hnc:n+1≤cap) (hbig:cap≤9223372036854775807) (hsz:(n+1)*4≤140737488355328)
    (hc:∀ j,j<n+1→w.cell? ⟨b,off+j,none⟩=some (.int .u32 (xs.getD j 0))) :
    Calls Tryz.prog 149 #[.slice (some ⟨b,off,none⟩) (n+1) cap] w fun e w'=>Makes w e w' (tr xs):=by
 obtain ⟨i0,hi,hz0,hz1,hz2⟩:=info_parts info_u32;go_enter Tryz.func149,Tryz.ntmps149;go_wp2
 go_loop [3] (fun s=>∃ k:Nat,k≤n+1∧s=.int .i64 k∧Hid (tl xs k=tl xs (n+1))) (fun s=>(intOf s).toNat)
 case atStart=>exact ⟨n+1,Nat.le_refl _,by go_num,rfl⟩
 case round=>
  obtain ⟨k,hk,rfl,ht⟩:=hrel;have fin:∀ k,k≤n+1→tl xs k=tl xs (n+1)→(k=0∨¬ xs.getD (k - 1) 0=0)→xs.take k=tr xs:=by
   intro k hk ht h;unfold tr;rw [hn.out,← ht];rcases h with h | h
   · subst h;rfl
   · cases k with
     | zero=>rfl
     | succ k=>rw [tl_pos xs k (by simpa using h)]
  by_cases hend:k=0∨¬ xs.getD (k - 1) 0=0
  · have htr:=fin k hk ht.out hend
    have HTR:Hid (xs.take k=tr xs):=htr;have hlen:(xs.take k).length=k:=by have:=hn.out;simp;omega
    have hnews:∀ j u,((xs.take k).map (Value.int .u32))[j]? = some u→w.cell? ((⟨b,off,none⟩:Addr).add j)=some u:=cells_news (fun j hj=>by
     rw [hlen] at hj;rw [hc j (by omega)];have:(xs.take k).getD j 0=xs.getD j 0:=by simp only [List.getD,List.getElem?_take];rw [if_pos (by omega)]
     rw [this])
    have hlu:lim (xs.take k):=lim_take hl k;clear fin htr;generalize hU:xs.take k=us at *;have HL:Hid (us.length=k):=hlen;have HC:Hid (k=0∨¬ xs.getD (k - 1) 0=0):=hend;clear hU hlen hend
    cases k with
    | zero=>
     clear hc;have hu0:us=[]:=List.eq_nil_of_length_eq_zero HL.out;subst hu0;go_wp2
     go_ret
     rw [← HTR.out];exact Makes.of rfl ⟨lim_nil,World.ownsRow_nil _ _ _ _⟩ (Below.refl _ _)
    | succ k=>
     have hck:=hc k (by omega);have hne:¬ xs.getD k 0=0:=by
      rcases HC.out with h | h
      · omega
      · simpa using h
     have hneb:(xs.getD k 0==0)=false:=by simpa using hne
     generalize hg:xs.getD k 0=g at *;clear hg hc hne
     go_wp2_with (at_builtin;refine wpList_append_own _ rfl _ _ 32 rfl w.heap.size 92 i0 (.int .u32 0) 1 4 Tryz.underlying32 hi hz0 hz1 hz2 rfl (by decide) _ _ _ rfl (World.ownsRow_nil _ _ _ _) ⟨b,off,none⟩ (k+1) cap (us.map (Value.int .u32)) rfl (by rw [List.length_map,HL.out];omega) hnews (ints_oneCell _ _) ?c3 ?c4 (Nat.le_refl _) ?_)
     case c3=>unfold maxLen;omega
     case c4=>omega
     intro v' w1 hown hgrow _;go_wp2
     go_ret
     rw [← HTR.out];exact Makes.of rfl ⟨hlu,by rw [HL.out];exact hown⟩ ((Below.refl _ _).grown hgrow (Nat.le_refl _) (fun k h=>by cases h))
  · obtain ⟨k,rfl⟩:∃ j,k=j+1:=⟨k - 1,by omega⟩
    have h0:xs.getD k 0=0:=by
     by_cases h:xs.getD k 0=0
     · exact h
     · exact absurd (Or.inr (by simpa using h)) hend
    have hck:=hc k (by omega);rw [h0] at hck;have HT0:Hid (tl xs (k+1)=tl xs k):=tl_zero xs k h0;clear hc fin hend h0;go_wp2
    go_round
    case rel=>exact ⟨k,by omega,by go_num,by unfold Hid;rw [← ht.out,HT0.out]⟩
    case measure=>simp [intOf]
theorem refTrim_z (a:Option Addr) (cap:Nat) (w:World) (hcap:a=none→cap=0) :
    Calls Tryz.prog 149 #[.slice a 0 cap] w fun e w'=>Makes w e w' []:=by
 obtain ⟨i0,hi,hz0,hz1,hz2⟩:=info_parts info_u32
 cases a with
 | none=>
  have:=hcap rfl;subst this;go_enter Tryz.func149,Tryz.ntmps149;go_wp2
  refine wp_loop_rounds 1 ?_;rw [rounds_succ];go_wp2
  go_ret
  exact Makes.of rfl ⟨lim_nil,World.ownsRow_nil _ _ _ _⟩ (Below.refl _ _)
 | some ad=>
  go_enter Tryz.func149,Tryz.ntmps149;go_wp2
  refine wp_loop_rounds 1 ?_;rw [rounds_succ]
  go_wp2_with (at_builtin;refine wpList_append_own _ rfl _ _ 32 rfl w.heap.size 92 i0 (.int .u32 0) 1 4 Tryz.underlying32 hi hz0 hz1 hz2 rfl (by decide) _ _ _ rfl (World.ownsRow_nil _ _ _ _) ad 0 cap [] rfl rfl (by intro j u h;simp at h) (by intro u h;cases h) ?c1 ?c2 (Nat.le_refl _) ?_)
  case c1=>unfold maxLen;omega
  case c2=>omega
  intro v' w1 hown hgrow _;go_wp2
  go_ret
  exact Makes.of rfl ⟨lim_nil,hown⟩ ((Below.refl _ _).grown hgrow (Nat.le_refl _) (fun k h=>by cases h))
/-- The document's Trim, at whatever slice of limbs. -/
theorem refTrim_rd {B:Nat} {w:World} {v:Value} {xs:List Int} (h:Rd B w v xs) (hsz:xs.length*4≤140737488355328) :
    Calls Tryz.prog 149 #[v] w fun e w'=>Makes w e w' (tr xs):=by
 obtain ⟨hl,a,cap,rfl,h1,h2,hn,h3⟩:=h;by_cases h0:xs.length=0
 · have e:xs=[]:=List.eq_nil_of_length_eq_zero h0
   subst e;exact refTrim_z a cap w hn
 · obtain ⟨n,hn1⟩:∃ n,xs.length=n+1:=⟨xs.length - 1,by omega⟩
   rcases h3 with h3 | ⟨b,off,rfl,_,hc⟩
   · exact absurd h3 h0
   · rw [hn1] at hc h1 ⊢
     exact refTrim_nz b off n cap xs w hn1 hl h1 h2 (by omega) hc
/-- The document's Compare. -/
theorem refCompare_rd {B B':Nat} {w:World} {v1 v2:Value} {xs ys:List Int} (h1:Rd B w v1 xs) (h2:Rd B' w v2 ys) (b2:B'≤w.heap.size) (s1:xs.length*4≤140737488355328) (s2:ys.length*4≤140737488355328) :
    Calls Tryz.prog 123 #[v1,v2] w fun e w'=>e=.returned (.int .i64 (cmpI (val xs) (val ys)))∧Below w.heap.size w w':=by
 rw [← val_tr xs,← val_tr ys];have c1:=tr_can h1.lim;have c2:=tr_can h2.lim;have n1:=tr_length_le xs;have n2:=tr_length_le ys;go_enter Tryz.func123,Tryz.ntmps123
 go_wp2_with fail
 refine (refTrim_rd h1 s1).mono ?_;rintro e wa ⟨a1,q1,rfl,o1,ba⟩;have hsa:=ba.size
 go_wp2_with fail
 refine (refTrim_rd (h2.below (ba.mono b2)) s2).mono ?_;rintro e wb ⟨a2,q2,rfl,o2,bb⟩;have bb':=ba.trans (bb.mono hsa);have o1':=o1.below bb (Nat.le_refl _);generalize hUS:tr xs=us at *;generalize hVS:tr ys=vs at *;have HU:Hid (cmpI (val (tr xs)) (val (tr ys))=cmpI (val us) (val vs)):=by unfold Hid;rw [hUS,hVS]
 clear o1 ba bb h1 h2 hUS hVS;by_cases hl:us.length=vs.length
 · by_cases h0:us.length=0
   · have k1:us=[]:=List.eq_nil_of_length_eq_zero h0
     have k2:vs=[]:=List.eq_nil_of_length_eq_zero (by omega);subst k1 k2;go_wp2
     refine wp_loop_rounds 1 ?_;rw [rounds_succ];go_wp2
     go_ret
     exact ⟨ret_int (by rw [HU.out];exact (cmpI_eq rfl).symm),bb'⟩
   · obtain ⟨l,hl1⟩:∃ l,us.length=l+1:=⟨us.length - 1,by omega⟩
     have hl2:vs.length=l+1:=by omega
     obtain ⟨lx,_,_,e1,_,_,_,r1⟩:=o1'.rd;obtain ⟨ly,_,_,e2,_,_,_,r2⟩:=o2.rd;rcases r1 with r1 | ⟨g1,f1,ea1,_,k1⟩
     · omega
     rcases r2 with r2 | ⟨g2,f2,ea2,_,k2⟩
     · omega
     subst ea1 ea2
     cases e1
     cases e2
     rw [hl1] at k1;rw [hl2] at k2;have K1:Hid (∀ j,j<l+1→wb.cell? ⟨g1,f1+j,none⟩=some (.int .u32 (us.getD j 0))):=k1;have K2:Hid (∀ j,j<l+1→wb.cell? ⟨g2,f2+j,none⟩=some (.int .u32 (vs.getD j 0))):=k2;have HX:Hid (us.length=l+1):=hl1;have HY:Hid (vs.length=l+1):=hl2;have hlb:l+1≤9223372036854775807:=by omega
     rw [hl1,hl2];clear k1 k2 hl1 hl2 hl h0 o1' o2;go_wp2
     go_loopw [7] (fun s wr=>(∃ n,wr=wb.drewN n)∧((∃ j:Nat,j<l+1∧s=.int .i64 j∧Hid (us.drop (j+1)=vs.drop (j+1)))∨(s=.int .i64 (-1)∧Hid (us=vs)))) (fun s _=>(intOf s+1).toNat)
     case atStart=>exact ⟨⟨0,rfl⟩,Or.inl ⟨l,by omega,by go_num,by unfold Hid;rw [List.drop_of_length_le (by rw [HX.out];omega),List.drop_of_length_le (by rw [HY.out];omega)]⟩⟩
     case round=>
      obtain ⟨⟨n,rfl⟩,⟨j,hj,rfl,hd⟩ | ⟨rfl,he⟩⟩:=hrel
      · have g1:=K1.out j hj
        have g2:=K2.out j hj;have r1:=lim_getD lx j;have r2:=lim_getD ly j;generalize hp:us.getD j 0=p at *;generalize hq:vs.getD j 0=q at *;have HP:Hid (us.getD j 0=p):=hp;have HQ:Hid (vs.getD j 0=q):=hq;clear hp hq;by_cases hpq:p=q
        · subst hpq
          cases j with
          | zero=>
           rw [Nat.add_zero] at g1 g2;go_wp2
           go_quiet (fail)
           go_wp2
           go_quiet (fail)
           go_wp2
           go_roundw
           case rel=>exact ⟨⟨_,rfl⟩,Or.inr ⟨rfl,by
            unfold Hid;have h0:=drop_eq_step us vs 0 (by rw [HX.out];omega) (by rw [HY.out];omega) hd.out (by rw [HP.out,HQ.out]);simpa using h0⟩⟩
           case measure=>simp [intOf]
          | succ j=>
           go_wp2
           go_quiet (fail)
           go_wp2
           go_quiet (fail)
           go_wp2
           go_roundw
           case rel=>exact ⟨⟨_,rfl⟩,Or.inl ⟨j,by omega,by go_num,by
            unfold Hid;exact drop_eq_step us vs (j+1) (by rw [HX.out];omega) (by rw [HY.out];omega) hd.out (by rw [HP.out,HQ.out])⟩⟩
           case measure=>simp [intOf];omega
        · by_cases hlt:p<q
          · have hc:cmpI (val us) (val vs) = -1:=cmpI_lt (val_lt_top lx ly (by rw [HX.out,HY.out]) j (by rw [HX.out];omega) hd.out (by rw [HP.out,HQ.out];exact hlt))
            have HC:Hid (cmpI (val us) (val vs) = -1):=hc;clear hpq hc;go_wp2
            go_quiet (fail)
            go_wp2
            go_ret
            exact ⟨ret_int (by rw [HU.out];exact HC.out.symm),below_drewN' (below_drewN' bb' _) _⟩
          · have hc:cmpI (val us) (val vs)=1:=cmpI_gt (val_lt_top ly lx (by rw [HX.out,HY.out]) j (by rw [HY.out];omega) hd.out.symm (by rw [HP.out,HQ.out];omega))
            have HC:Hid (cmpI (val us) (val vs)=1):=hc;have hgt:q<p:=by omega
            clear hpq hc;go_wp2
            go_quiet (fail)
            go_wp2
            go_quiet (fail)
            go_wp2
            go_ret
            exact ⟨ret_int (by rw [HU.out];exact HC.out.symm),below_drewN' (below_drewN' (below_drewN' bb' _) _) _⟩
      · go_wp2
        go_ret
        exact ⟨ret_int (by rw [HU.out];exact (cmpI_eq (by rw [he.out])).symm),below_drewN' bb' _⟩
 · have t0:(((us.length:Nat):Int) != ((vs.length:Nat):Int))=true:=by rw [bne_iff_ne];omega
   by_cases h:us.length<vs.length
   · have hc:=can_len_lt c1 c2 h
     have HC:Hid (cmpI (val us) (val vs) = -1):=cmpI_lt hc;clear hc;go_wp2
     go_ret
     exact ⟨ret_int (by rw [HU.out];exact HC.out.symm),bb'⟩
   · have hc:=can_len_lt c2 c1 (by omega)
     have HC:Hid (cmpI (val us) (val vs)=1):=cmpI_gt hc;clear hc;go_wp2
     go_ret
     exact ⟨ret_int (by rw [HU.out];exact HC.out.symm),bb'⟩
theorem rightB_last (xs:List Int) (n:Nat) (hn:xs.length=n+1):rightB xs = !(xs.getD n 0==0):=by
 unfold rightB;rw [tr_length,hn];by_cases h:xs.getD n 0=0
 · rw [tl_zero xs n h,h]
   have h1:=tl_le xs n;have h2:¬ tl xs n=n+1:=by omega
   simp [h2]
 · have h1:(xs.getD n 0==0)=false:=by simpa using h
   rw [tl_pos xs n h,h1];simp
theorem refRight_any {B:Nat} {w:World} {v:Value} {xs:List Int} (h:Rd B w v xs) :
    Calls Tryz.prog 122 #[v] w fun e w'=>e=.returned (.bool (rightB xs))∧w=w':=by
 obtain ⟨_,a,c,rfl,hc,hb,_,r⟩:=h;by_cases h0:xs.length=0
 · have e:xs=[]:=List.eq_nil_of_length_eq_zero h0
   subst e;go_enter Tryz.func122,Tryz.ntmps122;go_wp2
   go_ret
   exact ⟨rfl,rfl⟩
 · obtain ⟨n,hn⟩:∃ n,xs.length=n+1:=⟨xs.length - 1,by omega⟩
   rcases r with r | ⟨b,o,rfl,_,k⟩
   · exact absurd r h0
   have hk:=k n (by omega);rw [rightB_last xs n hn];rw [hn] at hc ⊢;generalize xs.getD n 0=t at *;have t0:(((n:Nat):Int)+1==0)=false:=by simp;omega
   clear k hn h0;by_cases ht:t=0
   · subst ht
     go_enter Tryz.func122,Tryz.ntmps122;go_wp2
     go_ret
     exact ⟨rfl,rfl⟩
   · have htb:(t != 0)=true:=by rw [bne_iff_ne];exact ht
     have htc:(t==0)=false:=by simpa using ht
     go_enter Tryz.func122,Tryz.ntmps122;go_wp2
     go_ret
     exact ⟨ret_bool (by rw [htc];rfl),rfl⟩
theorem or_zero_left (x:Int) (h:0≤x∧x<18446744073709551616):bits .or .u64 0 x=x:=by
 obtain ⟨a,rfl⟩:=Int.eq_ofNat_of_zero_le h.1;have:=bits_or_u64_nat 0 a (by omega) (by omega);rw [Nat.zero_or] at this;exact this
theorem or_add_right (q v:Int) (hq:0≤q∧q<4294967296) (hv:0≤v∧v<4294967296):bits .or .u64 v (q*4294967296)=v+q*4294967296:=by
 obtain ⟨a,rfl⟩:=Int.eq_ofNat_of_zero_le hq.1;obtain ⟨b,rfl⟩:=Int.eq_ofNat_of_zero_le hv.1;have e:((a:Int)*4294967296)=((a*4294967296:Nat):Int):=by omega
 rw [e,bits_or_u64_nat _ _ (by omega) (by omega)];have h:b ||| a*4294967296=a*4294967296+b:=by
  have:=Nat.two_pow_add_eq_or_of_lt (i:=32) (b:=b) (by omega) a;rw [Nat.mul_comm,Nat.or_comm];exact this.symm
 rw [h];omega
theorem word_two (b o c:Nat) (x y:Int) (w:World) (hx:0≤x∧x<4294967296) (hy:0≤y∧y<4294967296) (k1:w.cell? ⟨b,o,none⟩=some (.int .u32 x)) (k2:w.cell? ⟨b,o+1,none⟩=some (.int .u32 y)) :
    Calls Tryz.prog 171 #[.slice (some ⟨b,o,none⟩) 2 c] w fun e w'=>e=.returned (.int .u64 (x+y*4294967296))∧w=w':=by
 have e1:=or_zero_left x (by omega);have e2:=or_add_right y x hy hx;go_enter Tryz.func171,Tryz.ntmps171;go_wp2
 refine wp_loop_rounds 3 ?_;rw [rounds_succ];go_wp2
 rw [rounds_succ];go_wp2
 rw [rounds_succ];go_wp2
 go_ret
 exact ⟨rfl,rfl⟩
theorem word_one (b o c:Nat) (x:Int) (w:World) (hx:0≤x∧x<4294967296) (k1:w.cell? ⟨b,o,none⟩=some (.int .u32 x)) :
    Calls Tryz.prog 171 #[.slice (some ⟨b,o,none⟩) 1 c] w fun e w'=>e=.returned (.int .u64 x)∧w=w':=by
 have e1:=or_zero_left x (by omega);go_enter Tryz.func171,Tryz.ntmps171;go_wp2
 refine wp_loop_rounds 2 ?_;rw [rounds_succ];go_wp2
 rw [rounds_succ];go_wp2
 go_ret
 exact ⟨rfl,rfl⟩
theorem word_zero (a:Option Addr) (c:Nat) (w:World) :
    Calls Tryz.prog 171 #[.slice a 0 c] w fun e w'=>e=.returned (.int .u64 0)∧w=w':=by
 go_enter Tryz.func171,Tryz.ntmps171;go_wp2
 refine wp_loop_rounds 1 ?_;rw [rounds_succ];go_wp2
 go_ret
 exact ⟨rfl,rfl⟩
/-- nat.word of at most two limbs: the number. -/
theorem word_rd {B:Nat} {w:World} {v:Value} {xs:List Int} (h:Rd B w v xs) (h2:xs.length≤2) :
    Calls Tryz.prog 171 #[v] w fun e w'=>e=.returned (.int .u64 (val xs))∧w=w':=by
 obtain ⟨hl,a,c,rfl,_,_,_,r⟩:=h
 match xs,h2 with
 | [],_=>exact word_zero a c w
 | [x],_=>
  rcases r with r | ⟨b,o,rfl,_,k⟩
  · simp at r
  · have e:val [x]=x:=by simp [val]
    rw [e];exact word_one b o c x w (hl x (by simp)) (k 0 (by simp))
 | [x,y],_=>
  rcases r with r | ⟨b,o,rfl,_,k⟩
  · simp at r
  · have e:val [x,y]=x+y*4294967296:=by simp [val];rw [Int.mul_comm]
    rw [e];exact word_two b o c x y w (hl x (by simp)) (hl y (by simp)) (k 0 (by simp)) (k 1 (by simp))
/-- A number as an int, if it is below 2^63. -/
def smallV (n:Int):Value:=.tuple #[.int .i64 (if n<9223372036854775808 then n else 0),.bool (decide (n<9223372036854775808))]
theorem smallV_lt {n:Int} (h:n<9223372036854775808):smallV n=.tuple #[.int .i64 n,.bool true]:=by unfold smallV;rw [if_pos h,decide_eq_true h]
theorem smallV_ge {n:Int} (h:9223372036854775808≤n):smallV n=.tuple #[.int .i64 0,.bool false]:=by unfold smallV;rw [if_neg (by omega),decide_eq_false (by omega)]
theorem isBits_63 {n:Int} {b:Nat} (h:isBits n b) (h0:0≤n):b≤63↔n<9223372036854775808:=by
 have e:p2 63=9223372036854775808:=by decide
 rcases h with ⟨rfl,rfl⟩ | ⟨h1,h2,h3⟩
 · exact ⟨fun _=>by omega,fun _=>by omega⟩
 · constructor
   · intro hb
     have:=p2_mono (j:=b) (k:=63) hb;omega
   · intro hn
     by_cases hb:b≤63
     · exact hb
     · have:=p2_mono (j:=63) (k:=b - 1) (by omega)
       omega
theorem can_two {us:List Int} (h:can us) (hv:val us<18446744073709551616):us.length≤2:=by
 by_cases hl:us.length≤2
 · exact hl
 · have h1:=can_low h (by omega)
   have h2:=pw_mono (j:=2) (k:=us.length - 1) (by omega);have e:pw 2=18446744073709551616:=by decide
   omega
/-- nat.Small. -/
theorem small_any {B:Nat} {w:World} {v:Value} {xs:List Int} (h:Rd B w v xs) (hn:xs.length≤17592186044415) :
    Calls Tryz.prog 176 #[v] w fun e w'=>e=.returned (smallV (val xs))∧w=w':=by
 have h0:=(val_bound h.lim).1;have m:=meant_rd h;have t:=h.meant;have ct:=tr_can h.lim;rw [← tr_length] at m t;have hv:=val_tr xs;go_enter Tryz.func176,Tryz.ntmps176
 go_wp2_with fail
 refine (bits_any h hn).mono ?_;rintro e w' ⟨b,rfl,hb,hbl,rfl⟩;have h63:=isBits_63 hb h0;clear hb;generalize hV:val xs=V at *;by_cases hlt:V<9223372036854775808
 · have hb63:b≤63:=h63.2 hlt
   have hl2:(tr xs).length≤2:=can_two ct (by omega);have hw:=word_rd t hl2;rw [hv] at hw;have HV:Hid (val xs=V):=hV;clear h63 hv hV
   go_wp2_with fail
   refine m.mono ?_;rintro e w' ⟨rfl,rfl⟩
   go_wp2_with fail
   refine hw.mono ?_;rintro e w' ⟨rfl,rfl⟩;go_wp2
   go_ret2
   refine ⟨?_,rfl⟩;rw [HV.out,smallV_lt hlt];rfl
 · have hb63:¬ b≤63:=fun hb=>hlt (h63.1 hb)
   have hb63':63<b:=by omega
   have HV:Hid (val xs=V):=hV;clear h63 hv hV;go_wp2
   go_ret2
   refine ⟨?_,rfl⟩;rw [HV.out,smallV_ge (by omega)];rfl
theorem cell1_new (w:World) (x:Value) (t:TypeId):∀ j u,[x][j]? = some u→(w.alloc (.cells #[x] t)).cell? ((⟨w.heap.size,0,none⟩:Addr).add j)=some u:=by
 intro j u hj
 match j,hj with
 | 0,hj=>simp at hj;subst hj;simp [Addr.add]
theorem limb_in (b o n c i:Nat) (x:Int) (w:World) (hx:0≤x∧x<4294967296) (h:i<n) (hb:n≤9223372036854775807) (k:w.cell? ⟨b,o+i,none⟩=some (.int .u32 x)) :
    Calls Tryz.prog 178 #[.slice (some ⟨b,o,none⟩) n c,.int .i64 i] w fun e w'=>e=.returned (.int .u64 x)∧w=w':=by
 go_enter Tryz.func178,Tryz.ntmps178;go_wp2
 go_ret
 exact ⟨rfl,rfl⟩
theorem limb_out (a:Option Addr) (n c i:Nat) (w:World) (h:¬ i<n) :
    Calls Tryz.prog 178 #[.slice a n c,.int .i64 i] w fun e w'=>e=.returned (.int .u64 0)∧w=w':=by
 go_enter Tryz.func178,Tryz.ntmps178;go_wp2
 go_ret
 exact ⟨rfl,rfl⟩
/-- The document's limb: one of a number; 0 behind it. -/
theorem limb_rd {B:Nat} {w:World} {v:Value} {xs:List Int} (h:Rd B w v xs) (i:Nat) :
    Calls Tryz.prog 178 #[v,.int .i64 i] w fun e w'=>e=.returned (.int .u64 (xs.getD i 0))∧w=w':=by
 obtain ⟨hl,a,c,rfl,h1,h2,_,r⟩:=h;by_cases hi:i<xs.length
 · rcases r with r | ⟨b,o,rfl,_,k⟩
   · omega
   · exact limb_in b o xs.length c i (xs.getD i 0) w (lim_getD hl i) hi (by omega) (k i hi)
 · have e:xs.getD i 0=0:=by simp [List.getD,List.getElem?_eq_none (Nat.le_of_not_lt hi)]
   rw [e];exact limb_out a xs.length c i w hi
theorem refAdd_step (us xs ys:List Int) (i:Nat) (c t:Int) (hl:us.length=i) (h:val us+c*pw i=val (xs.take i)+val (ys.take i)) (ht:t=xs.getD i 0+ys.getD i 0+c) :
    val (us++[t % 4294967296])+t/4294967296*pw (i+1)=val (xs.take (i+1))+val (ys.take (i+1)):=by
 have hd:4294967296*(t/4294967296)+t % 4294967296=t:=Int.mul_ediv_add_emod t 4294967296;have htk:∀ zs:List Int,val (zs.take (i+1))=val (zs.take i)+zs.getD i 0*pw i:=by
  intro zs;by_cases hy:i<zs.length
  · exact val_take_succ zs i hy
  · have e1:zs.take (i+1)=zs.take i:=by rw [List.take_of_length_le (by omega),List.take_of_length_le (by omega)]
    have e2:zs.getD i 0=0:=by simp [List.getD,List.getElem?_eq_none (Nat.le_of_not_lt hy)]
    rw [e1,e2];simp
 rw [val_append,hl,htk xs,htk ys,pw_succ];simp only [val];generalize t/4294967296=q at *;generalize t % 4294967296=r at *;have key:=congrArg (fun u=>u*pw i) (hd.trans ht);simp only [Int.mul_zero,Int.add_zero] at *;simp only [Int.add_mul,Int.mul_add,Int.mul_assoc,Int.mul_comm,Int.mul_left_comm] at *;omega
theorem own_push {base:Nat} {w2:World} {v':Value} {us:List Int} {r:Int} (hl:lim us) (hr:0≤r∧r<4294967296) (h:w2.ownsRow base 92 1 v' (us.length+1) (us.map (Value.int .u32)++[.int .u32 r])):Own base w2 v' (us++[r]):=by
 refine ⟨lim_append.2 ⟨hl,fun x hx=>by simp at hx;omega⟩,?_⟩;rw [List.length_append,List.map_append];exact h
/-- The document's Add of two: the sum, right limbs. -/
theorem refAdd_any {B1 B2:Nat} {w:World} {v1 v2:Value} {xs ys:List Int} (h1:Rd B1 w v1 xs) (b1:B1≤w.heap.size) (h2:Rd B2 w v2 ys) (b2:B2≤w.heap.size) (n1:xs.length≤1000000000000) (n2:ys.length≤1000000000000) :
    Calls Tryz.prog 166 #[v1,v2] w fun e w'=>∃ zs,can zs∧val zs=val xs+val ys∧zs.length≤max xs.length ys.length+1∧Makes w e w' zs:=by
 obtain ⟨i0,hi,hz0,hz1,hz2⟩:=info_parts info_u32;have lx:=h1.lim;have ly:=h2.lim;obtain ⟨a1,c1,rfl⟩:∃ a c,v1=.slice a xs.length c:=by obtain ⟨_,a,c,rfl,_⟩:=h1;exact ⟨a,c,rfl⟩
 obtain ⟨a2,c2,rfl⟩:∃ a c,v2=.slice a ys.length c:=by obtain ⟨_,a,c,rfl,_⟩:=h2;exact ⟨a,c,rfl⟩
 go_enter Tryz.func166,Tryz.ntmps166;go_wp2
 go_loopw [5,6,7] (fun s cr ii wr=>∃ (i:Nat) (C:Int) (us:List Int) (a:Option Addr) (c:Nat),i≤max xs.length ys.length+1∧ii=.int .i64 i∧cr=.int .u64 C∧0≤C∧C≤1∧Hid (us.length=i)∧s=.slice a us.length c∧Own w.heap.size wr (.slice a us.length c) us∧Below w.heap.size w wr∧Hid (val us+C*pw i=val (xs.take i)+val (ys.take i))∧(i=max xs.length ys.length+1→C=0))
  (fun _ _ ii _=>max xs.length ys.length+1 - (intOf ii).toNat)
 case atStart=>exact ⟨0,0,[],none,0,by omega,rfl,rfl,by omega,by omega,rfl,rfl,⟨lim_nil,World.ownsRow_nil _ _ _ _⟩,Below.refl _ _,by unfold Hid;simp [val],fun h=>by omega⟩
 case round=>
  obtain ⟨i,C,us,a,c,hiM,rfl,rfl,hC0,hC1,hul,rfl,hown,hbl,hval,hlast⟩:=hrel;have hs:=hbl.size;by_cases hgo:i<xs.length∨i<ys.length∨0<C
  · have hiM2:i<max xs.length ys.length+1:=by
     rcases hgo with h | h | h
     · omega
     · omega
     · by_cases he:i=max xs.length ys.length+1
       · have:=hlast he;omega
       · omega
    have rx:=lim_getD lx i;have ry:=lim_getD ly i;have hT0:0≤xs.getD i 0+ys.getD i 0+C:=by omega
    have k1:=limb_rd (h1.below (hbl.mono b1)) i;have k2:=limb_rd (h2.below (hbl.mono b2)) i;have hval2:=refAdd_step us xs ys i C _ hul.out hval.out rfl;have hlast2:i+1=max xs.length ys.length+1→(xs.getD i 0+ys.getD i 0+C)/4294967296=0:=by
     intro he;have e1:xs.getD i 0=0:=by simp [List.getD,List.getElem?_eq_none (show xs.length≤i by omega)]
     have e2:ys.getD i 0=0:=by simp [List.getD,List.getElem?_eq_none (show ys.length≤i by omega)]
     rw [e1,e2];omega
    generalize hX:xs.getD i 0=X at *;generalize hY:ys.getD i 0=Y at *;have HVAL:Hid (val (us++[(X+Y+C) % 4294967296])+(X+Y+C)/4294967296*pw (i+1)=val (xs.take (i+1))+val (ys.take (i+1))):=hval2;have HLAST:Hid (i+1=max xs.length ys.length+1→(X+Y+C)/4294967296=0):=hlast2;clear hX hY hval2 hlast2 hlast;have huL:us.length=i:=hul.out;have HUL:us.length≤2000000000000:=by omega
    clear huL;have hcases:i<xs.length∨(xs.length≤i∧i<ys.length)∨(xs.length≤i∧ys.length≤i∧0<C):=by omega
    clear hgo;rcases hcases with q1 | ⟨q1,q2⟩ | ⟨q1,q2,q3⟩
    all_goals
     go_wp2_with fail
     refine k1.mono ?_;rintro e w' ⟨rfl,rfl⟩
     go_wp2_with fail
     refine k2.mono ?_;rintro e w' ⟨rfl,rfl⟩;clear k1 k2
     go_wp2_with (at_builtin;(refine wpList_append_own _ rfl _ _ 32 rfl w.heap.size 92 i0 (.int .u32 0) 1 4 Tryz.underlying32 hi hz0 hz1 hz2 rfl (by decide) _ us.length (us.map (Value.int .u32)) rfl (hown.2.alloc _) ⟨wr.heap.size,0,none⟩ 1 1 [.int .u32 ((X+Y+C) % 4294967296)] rfl rfl (cell1_new _ _ _) (by intro u hu;simp at hu;subst hu;rfl) (by unfold maxLen;omega) (by omega) (by simp;omega) ?_);intro v' w2 hown' hgrow _)
     have hO:=own_push hown.lim (by omega) hown';have hb2:Below w.heap.size w w2:=(hbl.alloc hs _).grown hgrow (by simp;omega) (fun k hk=>(hown.2.lt k hk).1);obtain ⟨a3,c3,hv3⟩:=hO.form;rw [hv3] at hO ⊢;clear hown' hgrow hv3 hown;go_wp2
     go_roundw
     case rel=>exact ⟨i+1,(X+Y+C)/4294967296,us++[(X+Y+C) % 4294967296],a3,c3,by omega,by go_num,rfl,by omega,by omega,(by unfold Hid;rw [List.length_append,hul.out];rfl),rfl,hO,hb2,HVAL,HLAST.out⟩
     case measure=>simp [intOf];omega
  · have q1:¬ i<xs.length:=fun h=>hgo (Or.inl h)
    have q2:¬ i<ys.length:=fun h=>hgo (Or.inr (Or.inl h));have q3:C=0:=by by_cases h:0<C;exact absurd (Or.inr (Or.inr h)) hgo;omega
    subst q3;have hfin:val us=val xs+val ys:=by
     have h3:=hval.out;rw [List.take_of_length_le (Nat.le_of_not_lt q1),List.take_of_length_le (Nat.le_of_not_lt q2)] at h3;simpa using h3
    have HF:Hid (val us=val xs+val ys):=hfin;have huL:us.length=i:=hul.out;clear hfin hgo;have hrd:=hown.rd;have hsz:us.length*4≤140737488355328:=by omega
    have hfl:us.length≤max xs.length ys.length+1:=by omega
    clear huL
    go_wp2_with fail
    refine (refTrim_rd hrd hsz).mono ?_;rintro e w2 ⟨a3,c3,rfl,ho3,hb3⟩;have ht:=tr_length_le us;go_wp2
    go_ret
    exact ⟨tr us,tr_can hown.lim,by rw [val_tr];exact HF.out,by omega,Makes.of rfl (ho3.mono hs) (hbl.trans (hb3.mono hs))⟩
theorem refMinus_step (us xs ys:List Int) (i:Nat) (c z c':Int) (hl:us.length=i) (h:val us - c*pw i=val (xs.take i) - val (ys.take i)) (ht:xs.getD i 0 - (ys.getD i 0+c)=z - c'*4294967296) :
    val (us++[z]) - c'*pw (i+1)=val (xs.take (i+1)) - val (ys.take (i+1)):=by
 have htk:∀ zs:List Int,val (zs.take (i+1))=val (zs.take i)+zs.getD i 0*pw i:=by
  intro zs;by_cases hy:i<zs.length
  · exact val_take_succ zs i hy
  · have e1:zs.take (i+1)=zs.take i:=by rw [List.take_of_length_le (by omega),List.take_of_length_le (by omega)]
    have e2:zs.getD i 0=0:=by simp [List.getD,List.getElem?_eq_none (Nat.le_of_not_lt hy)]
    rw [e1,e2];simp
 rw [val_append,hl,htk xs,htk ys,pw_succ];simp only [val];have key:=congrArg (fun u=>u*pw i) ht;simp only [Int.mul_zero,Int.add_zero] at *;simp only [Int.add_mul,Int.mul_add,Int.sub_mul,Int.mul_assoc,Int.mul_comm,Int.mul_left_comm] at *;omega
theorem val_cut {xs ys:List Int} (hx:lim xs) (hy:lim ys) (h:val ys≤val xs):val (ys.take xs.length)=val ys:=by
 by_cases hl:ys.length≤xs.length
 · rw [List.take_of_length_le hl]
 · have h1:=val_split ys xs.length (by omega)
   have h2:=(val_bound hx).2;have h3:=val_bound (lim_drop hy xs.length);have h4:=val_bound (lim_take hy xs.length);have hp:=pw_pos xs.length;have h5:val (ys.drop xs.length)=0:=by
    by_cases h0:val (ys.drop xs.length)=0
    · exact h0
    · have:pw xs.length*1≤pw xs.length*val (ys.drop xs.length):=Int.mul_le_mul_of_nonneg_left (by omega) (Int.le_of_lt hp)
      omega
   rw [h5] at h1;simp at h1;exact h1.symm
/-- The document's Minus. -/
theorem refMinus_any {B1 B2:Nat} {w:World} {v1 v2:Value} {xs ys:List Int} (h1:Rd B1 w v1 xs) (b1:B1≤w.heap.size) (h2:Rd B2 w v2 ys) (b2:B2≤w.heap.size) (n1:xs.length≤1000000000000) (n2:ys.length≤1000000000000) :
    Calls Tryz.prog 165 #[v1,v2] w fun e w'=>Minuses w (val xs - val ys) e w':=by
 obtain ⟨i0,hi,hz0,hz1,hz2⟩:=info_parts info_u32;have lx:=h1.lim;have ly:=h2.lim;obtain ⟨a1,c1,rfl⟩:∃ a c,v1=.slice a xs.length c:=by obtain ⟨_,a,c,rfl,_⟩:=h1;exact ⟨a,c,rfl⟩
 obtain ⟨a2,c2,rfl⟩:∃ a c,v2=.slice a ys.length c:=by obtain ⟨_,a,c,rfl,_⟩:=h2;exact ⟨a,c,rfl⟩
 by_cases hlt:val xs<val ys
 · have hcm:=cmpI_lt hlt
   go_enter Tryz.func165,Tryz.ntmps165
   go_wp2_with fail
   refine (refCompare_rd h1 h2 b2 (by omega) (by omega)).mono ?_;rintro e wa ⟨rfl,ba⟩;rw [hcm];go_wp2
   go_ret2
   refine ⟨ba,?_⟩;rw [if_pos (by omega)];rfl
 · obtain ⟨cm,hcm,hcm0⟩:∃ cm,cmpI (val xs) (val ys)=cm∧0≤cm:=by
    by_cases he:val xs=val ys
    · exact ⟨0,cmpI_eq he,by omega⟩
    · exact ⟨1,cmpI_gt (by omega),by omega⟩
   have HLT:Hid (val ys≤val xs):=by unfold Hid;omega
   go_enter Tryz.func165,Tryz.ntmps165
   go_wp2_with fail
   refine (refCompare_rd h1 h2 b2 (by omega) (by omega)).mono ?_;rintro e wa ⟨rfl,ba⟩;rw [hcm];have sa:=ba.size;clear hlt hcm;go_wp2
   go_loopw [6,7,8] (fun s cr ii wr=>∃ (i:Nat) (C:Int) (us:List Int) (a:Option Addr) (c:Nat),i≤xs.length∧ii=.int .i64 i∧cr=.int .u64 C∧0≤C∧C≤1∧Hid (us.length=i)∧s=.slice a us.length c∧Own w.heap.size wr (.slice a us.length c) us∧Below w.heap.size w wr∧Hid (val us - C*pw i=val (xs.take i) - val (ys.take i)))
    (fun _ _ ii _=>xs.length - (intOf ii).toNat)
   case atStart=>exact ⟨0,0,[],none,0,by omega,rfl,rfl,by omega,by omega,rfl,rfl,⟨lim_nil,World.ownsRow_nil _ _ _ _⟩,ba,by unfold Hid;simp [val]⟩
   case round=>
    obtain ⟨i,C,us,a,c,hiM,rfl,rfl,hC0,hC1,hul,rfl,hown,hbl,hval⟩:=hrel;have hs:=hbl.size;by_cases hgo:i<xs.length
    · have rx:=lim_getD lx i
      have ry:=lim_getD ly i;have k1:=limb_rd (h1.below (hbl.mono b1)) i;have k2:=limb_rd (h2.below (hbl.mono b2)) i;have hstep:=fun z c'=>refMinus_step us xs ys i C z c' hul.out hval.out;generalize hX:xs.getD i 0=X at *;generalize hY:ys.getD i 0=Y at *;have HSTEP:Hid (∀ z c',X - (Y+C)=z - c'*4294967296→val (us++[z]) - c'*pw (i+1)=val (xs.take (i+1)) - val (ys.take (i+1))):=hstep;clear hX hY hstep;have huL:us.length=i:=hul.out;have HUL:us.length≤2000000000000:=by omega
      clear huL;by_cases hneg:X<Y+C
      · go_wp2_with fail
        refine k1.mono ?_;rintro e w' ⟨rfl,rfl⟩
        go_wp2_with fail
        refine k2.mono ?_;rintro e w' ⟨rfl,rfl⟩;clear k1 k2;have hz:(X+4294967296 - (Y+C)) % 4294967296=X+4294967296 - (Y+C):=by omega
        go_wp2_with (at_builtin;(refine wpList_append_own _ rfl _ _ 32 rfl w.heap.size 92 i0 (.int .u32 0) 1 4 Tryz.underlying32 hi hz0 hz1 hz2 rfl (by decide) _ us.length (us.map (Value.int .u32)) rfl (hown.2.alloc _) ⟨wr.heap.size,0,none⟩ 1 1 [.int .u32 (X+4294967296 - (Y+C))] rfl rfl (cell1_new _ _ _) (by intro u hu;simp at hu;subst hu;rfl) (by unfold maxLen;omega) (by omega) (by simp;omega) ?_);intro v' w2 hown' hgrow _)
        have hO:=own_push hown.lim (by omega) hown';have hb2:Below w.heap.size w w2:=(hbl.alloc hs _).grown hgrow (by simp;omega) (fun k hk=>(hown.2.lt k hk).1);obtain ⟨a3,c3,hv3⟩:=hO.form;rw [hv3] at hO ⊢;clear hown' hgrow hv3 hown hz;go_wp2
        go_roundw
        case rel=>exact ⟨i+1,1,us++[X+4294967296 - (Y+C)],a3,c3,by omega,by go_num,rfl,by omega,by omega,(by unfold Hid;rw [List.length_append,hul.out];rfl),rfl,hO,hb2,HSTEP.out _ 1 (by omega)⟩
        case measure=>simp [intOf];omega
      · go_wp2_with fail
        refine k1.mono ?_;rintro e w' ⟨rfl,rfl⟩
        go_wp2_with fail
        refine k2.mono ?_;rintro e w' ⟨rfl,rfl⟩;clear k1 k2;have hz:(X - (Y+C)) % 4294967296=X - (Y+C):=by omega
        go_wp2_with (at_builtin;(refine wpList_append_own _ rfl _ _ 32 rfl w.heap.size 92 i0 (.int .u32 0) 1 4 Tryz.underlying32 hi hz0 hz1 hz2 rfl (by decide) _ us.length (us.map (Value.int .u32)) rfl (hown.2.alloc _) ⟨wr.heap.size,0,none⟩ 1 1 [.int .u32 (X - (Y+C))] rfl rfl (cell1_new _ _ _) (by intro u hu;simp at hu;subst hu;rfl) (by unfold maxLen;omega) (by omega) (by simp;omega) ?_);intro v' w2 hown' hgrow _)
        have hO:=own_push hown.lim (by omega) hown';have hb2:Below w.heap.size w w2:=(hbl.alloc hs _).grown hgrow (by simp;omega) (fun k hk=>(hown.2.lt k hk).1);obtain ⟨a3,c3,hv3⟩:=hO.form;rw [hv3] at hO ⊢;clear hown' hgrow hv3 hown hz;go_wp2
        go_roundw
        case rel=>exact ⟨i+1,0,us++[X - (Y+C)],a3,c3,by omega,by go_num,rfl,by omega,by omega,(by unfold Hid;rw [List.length_append,hul.out];rfl),rfl,hO,hb2,HSTEP.out _ 0 (by omega)⟩
        case measure=>simp [intOf];omega
    · obtain rfl:i=xs.length:=by omega
      have hfin:val us=val xs - val ys:=by
       have h3:=hval.out;rw [List.take_length,val_cut lx ly HLT.out] at h3;have h4:=(val_bound hown.lim).2;rw [hul.out] at h4;have h5:=HLT.out;have hc01:C=0∨C=1:=by omega
       rcases hc01 with rfl | rfl
       · simpa using h3
       · simp only [Int.one_mul] at h3;omega
      have HF:Hid (val us=val xs - val ys):=hfin;have hsz:us.length*4≤140737488355328:=by have:=hul.out;omega
      clear hfin
      go_wp2_with fail
      refine (refTrim_rd hown.rd hsz).mono ?_;rintro e w2 ⟨a3,c3,rfl,ho3,hb3⟩;go_wp2
      go_ret2
      refine ⟨hbl.trans (hb3.mono hs),?_⟩;rw [if_neg (by have:=HLT.out;omega)];exact ⟨tr us,a3,c3,tr_can hown.lim,by rw [val_tr];exact HF.out,rfl,ho3.mono hs⟩
theorem bits_or_u32_nat' (a b:Nat) (ha:a<4294967296) (hb:b<4294967296):bits .or .u32 (a:Int) (b:Int)=((a ||| b:Nat):Int):=by
 have hx:a ||| b<2 ^ 32:=Nat.or_lt_two_pow (by omega) (by omega)
 have h1:(BitVec.ofInt 32 (a:Int)).toNat=a:=by
  rw [BitVec.ofInt_natCast,BitVec.toNat_ofNat];exact Nat.mod_eq_of_lt (by omega)
 have h2:(BitVec.ofInt 32 (b:Int)).toNat=b:=by
  rw [BitVec.ofInt_natCast,BitVec.toNat_ofNat];exact Nat.mod_eq_of_lt (by omega)
 show IntKind.u32.wrap ((BitVec.ofInt 32 (a:Int) ||| BitVec.ofInt 32 (b:Int)).toNat:Int)=_
 rw [BitVec.toNat_or,h1,h2,IntKind.wrap_u32];omega
/-- Two times a limb, and a bit below. -/
theorem or_bit (x c:Int) (hx:0≤x∧x<4294967296) (hc:0≤c∧c≤1):bits .or .u32 (x*2 % 4294967296) c=x*2 % 4294967296+c:=by
 obtain ⟨k,hk⟩:∃ k:Nat,x*2 % 4294967296=((k*2:Nat):Int):=⟨(x % 2147483648).toNat,by omega⟩;obtain ⟨d,rfl⟩:=Int.eq_ofNat_of_zero_le hc.1;rw [hk,bits_or_u32_nat' _ _ (by omega) (by omega)];have h:k*2 ||| d=k*2+d:=by
  have:=Nat.two_pow_add_eq_or_of_lt (i:=1) (b:=d) (by omega) k;rw [Nat.mul_comm];exact this.symm
 rw [h];omega
/-- Half a limb, and a bit above. -/
theorem or_high (x c:Int) (hx:0≤x∧x<4294967296) (hc:0≤c∧c≤1):bits .or .u32 (x/2) (c*2147483648)=x/2+c*2147483648:=by
 obtain ⟨k,hk⟩:∃ k:Nat,x/2=(k:Int):=⟨(x/2).toNat,by omega⟩;obtain ⟨d,rfl⟩:=Int.eq_ofNat_of_zero_le hc.1;have e:((d:Int)*2147483648)=((d*2147483648:Nat):Int):=by omega
 rw [hk,e,bits_or_u32_nat' _ _ (by omega) (by omega)];have h:k ||| d*2147483648=k+d*2147483648:=by
  have:=Nat.two_pow_add_eq_or_of_lt (i:=31) (b:=k) (by omega) d;rw [Nat.or_comm,Nat.mul_comm,← this];omega
 rw [h];omega
theorem ref_and_one_u32 (x:Int) (h0:0≤x) (h1:x<4294967296):bits .and .u32 x 1=x % 2:=
 bits_mask .u32 32 (by decide) (fun n a b=>by rw [IntKind.wrap_u32];omega) 1 (by decide) x h0 (by omega)
theorem and_one_u64 (x:Int) (h0:0≤x) (h1:x<4294967296):bits .and .u64 x 1=x % 2:=
 bits_mask .u64 64 (by decide) (fun n a b=>by rw [IntKind.wrap_u64];omega) 1 (by decide) x h0 (by omega)
theorem twice_step (us xs:List Int) (i:Nat) (c z c' m:Int) (hl:us.length=i) (hi:i<xs.length) (h:val us+c*pw i=2*val (xs.take i)+m) (ht:2*xs.getD i 0+c=z+c'*4294967296) :
    val (us++[z])+c'*pw (i+1)=2*val (xs.take (i+1))+m:=by
 rw [val_append,hl,val_take_succ xs i hi,pw_succ];simp only [val];have key:=congrArg (fun u=>u*pw i) ht;simp only [Int.mul_zero,Int.add_zero] at *;simp only [Int.add_mul,Int.mul_add,Int.sub_mul,Int.mul_assoc,Int.mul_comm,Int.mul_left_comm] at *;omega
theorem half_step (us xs:List Int) (i:Nat) (z m:Int) (hl:us.length=i) (hi:i<xs.length) (h:2*val us+m=val (xs.take i)+xs.getD i 0 % 2*pw i) (ht:2*z=xs.getD i 0 - xs.getD i 0 % 2+xs.getD (i+1) 0 % 2*4294967296) :
    2*val (us++[z])+m=val (xs.take (i+1))+xs.getD (i+1) 0 % 2*pw (i+1):=by
 rw [val_append,hl,val_take_succ xs i hi,pw_succ];simp only [val];generalize xs.getD i 0 % 2=r at *;generalize xs.getD (i+1) 0 % 2=s at *;generalize xs.getD i 0=x at *;have key:=congrArg (fun u=>u*pw i) ht;simp only [Int.mul_zero,Int.add_zero] at *;simp only [Int.add_mul,Int.mul_add,Int.sub_mul,Int.mul_assoc,Int.mul_comm,Int.mul_left_comm] at *;omega
theorem val_mod2 (xs:List Int):val xs % 2=xs.getD 0 0 % 2:=by
 cases xs with
 | nil=>rfl
 | cons x xs=>simp only [val,List.getD_cons_zero];omega
/-- Half of limbs. -/
theorem half_end (us xs:List Int) (h:2*val us+xs.getD 0 0 % 2=val (xs.take xs.length)+xs.getD xs.length 0 % 2*pw xs.length):val us=val xs/2:=by
 have e:xs.getD xs.length 0=0:=by simp [List.getD]
 rw [e,List.take_length,← val_mod2] at h;simp at h;omega
/-- The number without its j lowest bits. -/
def sh (A:Int) (j:Nat):Int:=A/p2 j
/-- The greatest divisor of two even numbers; of an even and an odd one; of a difference. -/
theorem gI_even2 (x y:Int) (hx:0≤x) (hy:0≤y) (h1:x % 2=0) (h2:y % 2=0):gI x y=2*gI (x/2) (y/2):=by
 unfold gI;have e1:x.toNat=2*(x/2).toNat:=by omega
 have e2:y.toNat=2*(y/2).toNat:=by omega
 rw [e1,e2,Nat.gcd_mul_left];omega
theorem gI_even (x y:Int) (hx:0≤x) (hy:0≤y) (h1:x % 2=0) (h2:¬ y % 2=0):gI x y=gI (x/2) y:=by
 unfold gI;have e1:x.toNat=2*(x/2).toNat:=by omega
 have hc:Nat.Coprime 2 y.toNat:=by
  have:y.toNat % 2=1:=by omega
  unfold Nat.Coprime;rw [Nat.gcd_rec,this];rfl
 rw [e1,Nat.Coprime.gcd_mul_left_cancel _ hc]
theorem gI_even' (x y:Int) (hx:0≤x) (hy:0≤y) (h1:y % 2=0) (h2:¬ x % 2=0):gI x y=gI x (y/2):=by
 rw [gI_comm,gI_even y x hy hx h1 h2,gI_comm]
theorem gI_sub (x y:Int) (hy:0≤y) (h:y≤x):gI x y=gI (x - y) y:=by
 unfold gI;have e:x.toNat=(x - y).toNat+y.toNat:=by omega
 rw [e,Nat.gcd_add_self_left]
theorem gI_sub' (x y:Int) (hx:0≤x) (h:x≤y):gI x y=gI x (y - x):=by
 rw [gI_comm,gI_sub y x hx h,gI_comm]
theorem gI_p2 (t:Nat) (x y:Int) (hx:0≤x) (hy:0≤y):gI (p2 t*x) (p2 t*y)=p2 t*gI x y:=by
 obtain ⟨a,rfl⟩:=Int.eq_ofNat_of_zero_le hx;obtain ⟨b,rfl⟩:=Int.eq_ofNat_of_zero_le hy;have e:p2 t=((2 ^ t:Nat):Int):=by unfold p2;simp
 unfold gI;rw [e,← Int.natCast_mul,← Int.natCast_mul];simp only [Int.toNat_natCast];rw [Nat.gcd_mul_left,Int.natCast_mul]
theorem own_nil (base:Nat) (w:World):Own base w (.slice none 0 0) []:=⟨lim_nil,World.ownsRow_nil _ _ _ _⟩
/-- The document's twice: two times a number, and a bit. -/
theorem refTwice_any {B:Nat} {w:World} {v:Value} {xs:List Int} (m:Int) (hm:0≤m∧m≤1) (h:Rd B w v xs) (hB:B≤w.heap.size) (hn:xs.length≤1000000000) :
    Calls Tryz.prog 167 #[v,.int .u32 m] w fun e w'=>∃ zs,can zs∧val zs=2*val xs+m∧Makes w e w' zs:=by
 obtain ⟨i0,hi,hz0,hz1,hz2⟩:=info_parts info_u32;have lx:=h.lim;obtain ⟨_,a1,c1,rfl,hcap0,hcap,_,kp⟩:=h;go_enter Tryz.func167,Tryz.ntmps167;go_wp2
 go_loopw [5,6,7] (fun s cr ii wr=>∃ (i:Nat) (C:Int) (us:List Int) (a:Option Addr) (c:Nat),i≤xs.length∧ii=.int .i64 i∧cr=.int .u32 C∧0≤C∧C≤1∧Hid (us.length=i)∧s=.slice a us.length c∧Own w.heap.size wr (.slice a us.length c) us∧Below w.heap.size w wr∧Hid (val us+C*pw i=2*val (xs.take i)+m))
  (fun _ _ ii _=>xs.length - (intOf ii).toNat)
 case atStart=>exact ⟨0,m,[],none,0,by omega,rfl,rfl,hm.1,hm.2,rfl,rfl,own_nil _ _,Below.refl _ _,by unfold Hid;simp [val,pw_zero]⟩
 case round=>
  obtain ⟨i,C,us,a,c,hiM,rfl,rfl,hC0,hC1,hul,rfl,hown,hbl,hval⟩:=hrel;have hs:=hbl.size;have huL:us.length=i:=hul.out;have HUL:us.length≤2000000000:=by omega
  clear huL;by_cases hgo:i<xs.length
  · rcases kp with kp | ⟨b,o,rfl,hbB,kp⟩
    · omega
    have rx:=lim_getD lx i;have hc:wr.cell? ⟨b,o+i,none⟩=some (.int .u32 (xs.getD i 0)):=(hbl.cell (by show b<w.heap.size;omega)).trans (kp i hgo);have hstep:=twice_step us xs i C (xs.getD i 0*2 % 4294967296+C) (xs.getD i 0/2147483648) m hul.out hgo hval.out (by omega);have hor:=or_bit (xs.getD i 0) C rx ⟨hC0,hC1⟩;generalize xs.getD i 0=X at *;have HST:Hid (val (us++[X*2 % 4294967296+C])+X/2147483648*pw (i+1)=2*val (xs.take (i+1))+m):=hstep;clear hstep kp;have hca:(wr.alloc (.cells #[.int .u32 (X*2 % 4294967296+C)] 92)).cell? ⟨b,o+i,none⟩=some (.int .u32 X):=by rw [← hc];exact ((Below.refl wr.heap.size wr).alloc (Nat.le_refl _) _).cell (by show b<wr.heap.size;omega)
    go_wp2_with (at_builtin;(refine wpList_append_own _ rfl _ _ 32 rfl w.heap.size 92 i0 (.int .u32 0) 1 4 Tryz.underlying32 hi hz0 hz1 hz2 rfl (by decide) _ us.length (us.map (Value.int .u32)) rfl (hown.2.alloc _) ⟨wr.heap.size,0,none⟩ 1 1 [.int .u32 (X*2 % 4294967296+C)] rfl rfl (cell1_new _ _ _) (by intro u hu;simp at hu;subst hu;rfl) (by unfold maxLen;omega) (by omega) (by simp;omega) ?_);intro v' w2 hown' hgrow _;have hb2:Below w.heap.size w w2:=(hbl.alloc hs _).grown hgrow (by simp;omega) (fun k hk=>(hown.2.lt k hk).1);have hc2:w2.cell? ⟨b,o+i,none⟩=some (.int .u32 X):=by rw [← hc,hbl.cell (p:=⟨b,o+i,none⟩) (by show b<w.heap.size;omega)];exact hb2.cell (by show b<w.heap.size;omega))
    have hO:=own_push hown.lim (by omega) hown';obtain ⟨a3,c3,hv3⟩:=hO.form;rw [hv3] at hO ⊢;clear hown' hgrow hv3 hown hor;go_wp2
    go_roundw
    case rel=>exact ⟨i+1,X/2147483648,us++[X*2 % 4294967296+C],a3,c3,by omega,by go_num,by go_num,by omega,by omega,(by unfold Hid;rw [List.length_append,hul.out];rfl),rfl,hO,hb2,HST⟩
    case measure=>simp [intOf];omega
  · obtain rfl:i=xs.length:=by omega
    have hfin:val (us++[C])=2*val xs+m:=by
     have h3:=hval.out;rw [List.take_length] at h3;rw [val_append,hul.out];simp only [val];rw [Int.mul_comm];simpa using h3
    have HF:Hid (val (us++[C])=2*val xs+m):=hfin;clear hfin kp
    go_wp2_with (at_builtin;(refine wpList_append_own _ rfl _ _ 32 rfl w.heap.size 92 i0 (.int .u32 0) 1 4 Tryz.underlying32 hi hz0 hz1 hz2 rfl (by decide) _ us.length (us.map (Value.int .u32)) rfl (hown.2.alloc _) ⟨wr.heap.size,0,none⟩ 1 1 [.int .u32 C] rfl rfl (cell1_new _ _ _) (by intro u hu;simp at hu;subst hu;rfl) (by unfold maxLen;omega) (by omega) (by simp;omega) ?_);intro v' w2 hown' hgrow _)
    have hO:=own_push hown.lim (by omega) hown';have hb2:Below w.heap.size w w2:=(hbl.alloc hs _).grown hgrow (by simp;omega) (fun k hk=>(hown.2.lt k hk).1);have hs2:=hb2.size;have hlen:(us++[C]).length*4≤140737488355328:=by simp;omega
    clear hown' hgrow hown
    go_wp2_with fail
    refine (refTrim_rd hO.rd hlen).mono ?_;rintro e w3 ⟨a3,c3,rfl,ho3,hb3⟩;go_wp2
    go_ret
    exact ⟨tr (us++[C]),tr_can hO.lim,by rw [val_tr];exact HF.out,Makes.of rfl (ho3.mono hs2) (hb2.trans (hb3.mono hs2))⟩
theorem len_of_lt {zs:List Int} (h:can zs) {L:Nat} (hv:val zs<pw L):zs.length≤L:=(can_len_pw h L).2 hv
/-- append onto a slice of the call's own, as one step of a region that draws. -/
theorem step_append_own {P:Program} {ops:Array Oper} {o:Oper} {a:Act} {w:World} {K:Act→World→Prop} {Q:Exit→Act→World→Prop} {E:Prop} (hg:o.guard=none) (s x:Operand) (t:TypeId)
    (ho:o.op=.call { callee:=.builtin .append,args:=#[s,x],argTypes:=#[t,t] })
    (base:Nat) (e:TypeId) (i:TypeInfo) (z:Value) (size bytes:Nat) (ht:P.underlying t=some (.slice e)) (hi:P.info? e=some i) (hz:i.zero=some z)
    (hsize:i.size=size) (hby:i.bytes=bytes) (hzs:z.cells.size=size) (hsz:0<size)
    (v:Value) (n:Nat) (xs:List Value) (hs:a.eval s=v) (hown:w.ownsRow base e size v n xs)
    (ad:Addr) (m c:Nat) (news:List Value) (hx:a.eval x=.slice (some ad) m c) (hl:news.length=m*size) (hnews:∀ j u,news[j]? = some u→w.cell? (ad.add j)=some u) (h1:∀ u∈news,u.oneCell'=true)
    (h63:n+m≤maxLen) (hbytes:(n+m)*bytes≤140737488355328) (hbase:base≤w.heap.size)
    (hK:∀ v' w',w'.ownsRow base e size v' (n+m) (xs++news)→w.grownBy w' v.ownBlock→K (a.put o.dst v') w') :
    if Region.wanted o (yielded ops a.tmps)=true then Oper.wp P o a w K Q else E:=by
 rw [if_pos (by simp [Region.wanted,hg])];exact wp_append_own w s x t ho base e i z size bytes ht hi hz hsize hby hzs hsz v n xs hs hown ad m c news hx hl hnews h1 h63 hbytes hbase fun v' w' h2 h3 _=>hK v' w' h2 h3
/-- The document's half: a number by 2. -/
theorem refHalf_any {B:Nat} {w:World} {v:Value} {xs:List Int} (h:Rd B w v xs) (hB:B≤w.heap.size) (hn:xs.length≤1000000000) :
    Calls Tryz.prog 164 #[v] w fun e w'=>∃ zs,can zs∧val zs=val xs/2∧Makes w e w' zs:=by
 obtain ⟨i0,hi,hz0,hz1,hz2⟩:=info_parts info_u32;have lx:=h.lim;have hh:=h;obtain ⟨_,a1,c1,rfl,hcap0,hcap,_,kp⟩:=h;go_enter Tryz.func164,Tryz.ntmps164;go_wp2
 go_loopw [3,4] (fun s ii wr=>∃ (i:Nat) (us:List Int) (a:Option Addr) (c:Nat),i≤xs.length∧ii=.int .i64 i∧Hid (us.length=i)∧s=.slice a us.length c∧Own w.heap.size wr (.slice a us.length c) us∧Below w.heap.size w wr∧Hid (2*val us+xs.getD 0 0 % 2=val (xs.take i)+xs.getD i 0 % 2*pw i))
  (fun _ ii _=>xs.length - (intOf ii).toNat)
 case atStart=>exact ⟨0,[],none,0,by omega,rfl,rfl,rfl,own_nil _ _,Below.refl _ _,by unfold Hid;simp [val,pw_zero]⟩
 case round=>
  obtain ⟨i,us,a,c,hiM,rfl,hul,rfl,hown,hbl,hval⟩:=hrel;have hs:=hbl.size;have huL:us.length=i:=hul.out;have HUL:us.length≤2000000000:=by omega
  clear huL;by_cases hgo:i<xs.length
  · rcases kp with kp | ⟨b,o,rfl,hbB,kp⟩
    · omega
    have rx:=lim_getD lx i;have ry:=lim_getD lx (i+1);have hc:wr.cell? ⟨b,o+i,none⟩=some (.int .u32 (xs.getD i 0)):=(hbl.cell (by show b<w.heap.size;omega)).trans (kp i hgo);have rr:=hh.below (hbl.mono hB);have rrd:Rd B wr.drew (.slice (some ⟨b,o,none⟩) xs.length c1) xs:=rr;have k1:=limb_rd rrd (i+1);clear rr rrd;rw [show (((i+1:Nat)):Int)=(i:Int)+1 by omega] at k1;have hstep:=half_step us xs i (xs.getD i 0/2+xs.getD (i+1) 0 % 2*2147483648) _ hul.out hgo hval.out (by omega);have hor:=or_high (xs.getD i 0) (xs.getD (i+1) 0 % 2) rx (by omega);have hand:=and_one_u64 (xs.getD (i+1) 0) ry.1 ry.2;have HST:Hid (2*val (us++[xs.getD i 0/2+xs.getD (i+1) 0 % 2*2147483648])+xs.getD 0 0 % 2=val (xs.take (i+1))+xs.getD (i+1) 0 % 2*pw (i+1)):=hstep;clear hstep kp;generalize hX:xs.getD i 0=X at *;generalize hY:xs.getD (i+1) 0=Y at *;have hwr:IntKind.i64.wrap ((i:Int)+1)=(i:Int)+1:=by rw [IntKind.wrap_i64];omega
    have hw1:IntKind.u32.wrap (Y % 2)=Y % 2:=by rw [IntKind.wrap_u32];omega
    have hw2:IntKind.u32.wrap (Y % 2*2147483648)=Y % 2*2147483648:=by rw [IntKind.wrap_u32];omega
    have hbd:Below w.heap.size w wr.drew:=⟨hbl.os,hbl.tape,hbl.output,hbl.size,hbl.block⟩;have hcw:w.cell? ⟨b,o+i,none⟩=some (.int .u32 X):=by rw [← hc];exact (hbl.cell (p:=⟨b,o+i,none⟩) (by show b<w.heap.size;omega)).symm
    have hcd:wr.drew.cell? ⟨b,o+i,none⟩=some (.int .u32 X):=hc;go_wp2
    go_region_held3 (fun w'=>w'.cell? ⟨b,o+i,none⟩=some (.int .u32 X))
     (first | go_keep | exact hc2)
     (first
      | (go_at_call 178;refine k1.mono ?_;rintro e w' ⟨rfl,rfl⟩)
      | (refine step_append_own rfl _ _ 32 rfl w.heap.size 92 i0 (.int .u32 0) 1 4 Tryz.underlying32 hi hz0 hz1 hz2 rfl (by decide) _ us.length (us.map (Value.int .u32)) rfl (hown.drew.2.alloc _) ⟨wr.heap.size,0,none⟩ 1 1 [_] rfl rfl (cell1_new wr.drew _ _) (by intro u hu;simp at hu;subst hu;rfl) (by unfold maxLen;omega) (by omega) (by simp;omega) ?_;intro v' w2 hown' hgrow;have hb2:Below w.heap.size w w2:=(hbd.alloc hs _).grown hgrow (by simp;omega) (fun k hk=>(hown.2.lt k hk).1);have hc2:w2.cell? ⟨b,o+i,none⟩=some (.int .u32 X):=by rw [← hcw];exact hb2.cell (by show b<w.heap.size;omega)))
    have hO:=own_push hown.lim (by omega) hown';obtain ⟨a3,c3,hv3⟩:=hO.form;rw [hv3] at hO ⊢;clear hown' hgrow hv3 hown hor hand;go_wp2
    go_roundw
    case rel=>exact ⟨i+1,us++[X/2+Y % 2*2147483648],a3,c3,by omega,by go_num,(by unfold Hid;rw [List.length_append,hul.out];rfl),rfl,hO,hb2,(by rw [hY];exact HST)⟩
    case measure=>simp [intOf];omega
  · obtain rfl:i=xs.length:=by omega
    have hfin:=half_end us xs hval.out;have HF:Hid (val us=val xs/2):=hfin;have hlen:us.length*4≤140737488355328:=by omega
    clear hfin kp
    go_wp2_with fail
    refine (refTrim_rd hown.rd hlen).mono ?_;rintro e w3 ⟨a3,c3,rfl,ho3,hb3⟩;go_wp2
    go_ret
    exact ⟨tr us,tr_can hown.lim,by rw [val_tr];exact HF.out,Makes.of rfl (ho3.mono hs) (hbl.trans (hb3.mono hs))⟩
theorem pos_len {zs:List Int} (h:can zs) (hl:¬ zs.length=0):0<val zs:=by
 have h1:=can_low h (by omega);have h2:=pw_pos (zs.length - 1);omega
/-- The lowest limb of a number that is not 0. -/
theorem low_cell {base:Nat} {w:World} {a:Option Addr} {c:Nat} {zs:List Int} (h:Own base w (.slice a zs.length c) zs) (hl:¬ zs.length=0):∃ g o,a=some ⟨g,o,none⟩∧w.cell? ⟨g,o,none⟩=some (.int .u32 (zs.getD 0 0)):=by
 obtain ⟨_,_,_,e1,_,_,_,r1⟩:=h.rd;rcases r1 with r1 | ⟨g1,f1,ea1,_,k1⟩
 · exact absurd r1 hl
 cases e1
 exact ⟨g1,f1,ea1,k1 0 (by omega)⟩
theorem twos_bound {A x:Int} {t L:Nat} (h:A=p2 t*x) (hx:0<x) (hA:A<pw L):t<32*L:=by
 by_cases hle:t<32*L
 · exact hle
 · have h1:=p2_mono (show 32*L≤t by omega)
   rw [← pw_p2] at h1;have h2:p2 t*1≤p2 t*x:=Int.mul_le_mul_of_nonneg_left (by omega) (Int.le_of_lt (p2_pos t));omega
/-- How a pair stands in the second loop: not both are even and not 0. -/
def Odd1 (x y:Int):Prop:=x=0∨y=0∨¬ x % 2=0∨¬ y % 2=0
theorem refgcd_any {B1 B2:Nat} {w:World} {v1 v2:Value} {xs ys:List Int} (h1:Rd B1 w v1 xs) (b1:B1≤w.heap.size) (h2:Rd B2 w v2 ys) (b2:B2≤w.heap.size) (L:Nat) (n1:xs.length≤L) (n2:ys.length≤L) (hL:L≤1000000) :
    Calls Tryz.prog 150 #[v1,v2] w fun e w'=>∃ zs,can zs∧val zs=gI (val xs) (val ys)∧zs.length≤L+1∧Makes w e w' zs:=by
 have hA:=val_bound h1.lim;have hY:=val_bound h2.lim;have ca:=tr_can h1.lim;have cb:=tr_can h2.lim;have va:=val_tr xs;have vb:=val_tr ys;have HA:Hid (0≤val xs∧val xs<pw L):=⟨hA.1,by have:=pw_mono n1;omega⟩;have HY:Hid (0≤val ys∧val ys<pw L):=⟨hY.1,by have:=pw_mono n2;omega⟩;have HVA:Hid (val (tr xs)=val xs∧val (tr ys)=val ys):=⟨va,vb⟩;have la:=tr_length_le xs;have lb:=tr_length_le ys;clear hA hY va vb;go_enter Tryz.func150,Tryz.ntmps150
 go_wp2_with fail
 refine (refTrim_rd h1 (by omega)).mono ?_;rintro e wa ⟨a1,q1,rfl,o1,ba⟩;have sa:=ba.size
 go_wp2_with fail
 refine (refTrim_rd (h2.below (ba.mono b2)) (by omega)).mono ?_;rintro e wb ⟨a2,q2,rfl,o2,bb⟩;have sb:=bb.size;have bw:Below w.heap.size w wb:=ba.trans (bb.mono sa);have o1':=o1.below bb (Nat.le_refl _);have o2':Own w.heap.size wb (.slice a2 (tr ys).length q2) (tr ys):=o2.mono sa;clear o1 o2 ba bb sa sb;go_wp2
 go_loopg [0,1,5] (val xs).toNat (fun g A Bv tt wr=>∃ (t:Nat) (us vs:List Int) (a:Option Addr) (c:Nat) (a':Option Addr) (c':Nat),Hid (g=(val us).toNat)∧tt=.int .i64 t∧t≤32*L∧can us∧can vs∧Hid (val xs=p2 t*val us∧val ys=p2 t*val vs)∧us.length≤L∧vs.length≤L∧A=.slice a us.length c∧Bv=.slice a' vs.length c'∧Own w.heap.size wr (.slice a us.length c) us∧Own w.heap.size wr (.slice a' vs.length c') vs∧Below w.heap.size w wr)
 case atStart=>exact ⟨0,tr xs,tr ys,a1,q1,a2,q2,(by unfold Hid;rw [HVA.out.1]),rfl,by omega,ca,cb,(by unfold Hid;rw [HVA.out.1,HVA.out.2];simp [p2]),by omega,by omega,rfl,rfl,o1',o2',bw⟩
 case round=>
  obtain ⟨t,us,vs,a,c,a',c',hg,rfl,htL,cu,cv,hval,lu,lv,rfl,rfl,ou,ov,hbl⟩:=hrel;have hs:=hbl.size;have hun:=(val_bound cu.1).1;have hvn:=(val_bound cv.1).1;have hcases:(¬ 0<us.length)∨(0<us.length∧¬ 0<vs.length)∨(0<us.length∧0<vs.length∧¬ us.getD 0 0 % 2=0)∨(0<us.length∧0<vs.length∧us.getD 0 0 % 2=0∧¬ vs.getD 0 0 % 2=0)∨(0<us.length∧0<vs.length∧us.getD 0 0 % 2=0∧vs.getD 0 0 % 2=0):=by omega
  have mu:=val_mod2 us;have mv:=val_mod2 vs;have ru:=lim_getD cu.1 0;have rv:=lim_getD cv.1 0;have hexit:∀ {p:Prop},(us.length=0∨vs.length=0∨¬ us.getD 0 0 % 2=0∨¬ vs.getD 0 0 % 2=0)→Odd1 (val us) (val vs):=by
   intro _ h;rcases h with h | h | h | h
   · exact Or.inl ((can_zero cu).1 h)
   · exact Or.inr (Or.inl ((can_zero cv).1 h))
   · exact Or.inr (Or.inr (Or.inl (by omega)))
   · exact Or.inr (Or.inr (Or.inr (by omega)))
  rcases hcases with q0 | ⟨q0,q1⟩ | ⟨q0,q1,q2⟩ | ⟨q0,q1,q2,q3⟩ | ⟨q0,q1,q2,q3⟩
  rotate_right
  · -- both even
    obtain ⟨g1,f1,rfl,k1⟩:=low_cell ou (by omega);obtain ⟨g2,f2,rfl,k2⟩:=low_cell ov (by omega);have e1:bits .and .u32 (us.getD 0 0) 1=0:=by rw [ref_and_one_u32 _ ru.1 ru.2];exact q2
    have e2:bits .and .u32 (vs.getD 0 0) 1=0:=by rw [ref_and_one_u32 _ rv.1 rv.2];exact q3
    have hup:=pos_len cu (by omega);have hmu:val us % 2=0:=by omega
    have hmv:val vs % 2=0:=by omega
    have htb:=twos_bound hval.out.1 hup HA.out.2;have HM:Hid (val us % 2=0∧val vs % 2=0∧0<val us∧0≤val vs):=⟨hmu,hmv,hup,hvn⟩;clear hup hmu hmv mu mv hexit hun hvn;generalize us.getD 0 0=U at *;generalize vs.getD 0 0=V at *
    go_wp2_with fail
    refine (refHalf_any ou.rd (Nat.le_refl _) (by omega)).mono ?_;rintro e w1 ⟨z1,cz1,vz1,a3,c3,rfl,o3,b3⟩;have s3:=b3.size;have ov3:=ov.below b3 (Nat.le_refl _);have HZ1:Hid (val z1=val us/2):=vz1;clear vz1
    go_wp2_with fail
    refine (refHalf_any ov3.rd (Nat.le_refl _) (by omega)).mono ?_;rintro e w2 ⟨z2,cz2,vz2,a4,c4,rfl,o4,b4⟩;have s4:=b4.size;have HZ2:Hid (val z2=val vs/2):=vz2;clear vz2;have o34:=o3.below b4 (Nat.le_refl _);have l1:z1.length≤us.length:=len_of_lt cz1 (by
     have:=(val_bound cu.1).2;have:=HZ1.out;have:=HM.out;omega)
    have l2:z2.length≤vs.length:=len_of_lt cz2 (by
     have:=(val_bound cv.1).2;have:=HZ2.out;have:=HM.out;omega)
    go_wp2
    go_roundg (val z1).toNat
    case measure=>have:=hg.out;have:=HZ1.out;have:=HM.out;omega
    case rel=>exact ⟨t+1,z1,z2,a3,c3,a4,c4,rfl,by go_num,by omega,cz1,cz2,(by
     unfold Hid;have h3:=hval.out;have h4:=HM.out;rw [p2_succ,HZ1.out,HZ2.out];have e3:2*p2 t*(val us/2)=p2 t*val us:=by
      rw [Int.mul_comm 2,Int.mul_assoc];congr 1;omega
     have e4:2*p2 t*(val vs/2)=p2 t*val vs:=by
      rw [Int.mul_comm 2,Int.mul_assoc];congr 1;omega
     rw [e3,e4];exact h3),by omega,by omega,rfl,rfl,o34.mono hs,o4.mono (by omega),hbl.trans ((b3.mono hs).trans (b4.mono (by omega)))⟩
  case' inl=>have ho:=hexit (p:=True) (Or.inl (by omega))
  case' inr.inl=>have ho:=hexit (p:=True) (Or.inr (Or.inl (by omega)))
  case' inr.inr.inl=>
   have ho:=hexit (p:=True) (Or.inr (Or.inr (Or.inl q2)));obtain ⟨g1,f1,rfl,k1⟩:=low_cell ou (by omega);have e1:bits .and .u32 (us.getD 0 0) 1=1:=by rw [ref_and_one_u32 _ ru.1 ru.2];omega
  case' inr.inr.inr.inl=>
   have ho:=hexit (p:=True) (Or.inr (Or.inr (Or.inr q3)));obtain ⟨g1,f1,rfl,k1⟩:=low_cell ou (by omega);obtain ⟨g2,f2,rfl,k2⟩:=low_cell ov (by omega);have e1:bits .and .u32 (us.getD 0 0) 1=0:=by rw [ref_and_one_u32 _ ru.1 ru.2];exact q2
   have e2:bits .and .u32 (vs.getD 0 0) 1=1:=by rw [ref_and_one_u32 _ rv.1 rv.2];omega
  all_goals
   have HO:Hid (Odd1 (val us) (val vs)):=ho;clear hexit ho mu mv;generalize us.getD 0 0=U at *;generalize vs.getD 0 0=V at *;obtain ⟨G,hG⟩:∃ G,Hid (G=gI (val us) (val vs)):=⟨_,rfl⟩;have HVAL:Hid (p2 t*G=gI (val xs) (val ys)):=by
    unfold Hid;rw [hG.out,hval.out.1,hval.out.2,gI_p2 t _ _ hun hvn]
   clear hun hvn;go_wp2
   go_loopg [0,1] (val us+val vs).toNat (fun g A Bv wr2=>∃ (us2 vs2:List Int) (a2:Option Addr) (c2:Nat) (a2':Option Addr) (c2':Nat),Hid (g=(val us2+val vs2).toNat)∧can us2∧can vs2∧Hid (G=gI (val us2) (val vs2)∧Odd1 (val us2) (val vs2))∧us2.length≤L∧vs2.length≤L∧A=.slice a2 us2.length c2∧Bv=.slice a2' vs2.length c2'∧Own w.heap.size wr2 (.slice a2 us2.length c2) us2∧Own w.heap.size wr2 (.slice a2' vs2.length c2') vs2∧Below w.heap.size w wr2)
   case atStart=>exact ⟨us,vs,_,c,_,c',rfl,cu,cv,⟨hG.out,HO.out⟩,lu,lv,rfl,rfl,ou,ov,hbl⟩
   case round=>
    clear q0 ou ov hbl hs ru rv cu cv lu lv hval hg hG HO;obtain ⟨us2,vs2,a2,c2,a2',c2',hg2,cu2,cv2,hval2,lu2,lv2,rfl,rfl,ou2,ov2,hbl2⟩:=hrel;have hs2:=hbl2.size;have hun:=(val_bound cu2.1).1;have hvn:=(val_bound cv2.1).1;have HN:Hid (0≤val us2∧0≤val vs2):=⟨hun,hvn⟩;clear hun hvn;by_cases hend:us2.length=0∨vs2.length=0
    · have HG:Hid (val us2+val vs2=G):=by
       unfold Hid;have h3:=HN.out;rw [hval2.out.1];rcases hend with h | h
       · rw [(can_zero cu2).1 h,gI_zero_left _ h3.2];omega
       · rw [(can_zero cv2).1 h,gI_zero _ h3.1];omega
      have hend2:(¬ 0<us2.length)∨(0<us2.length∧¬ 0<vs2.length):=by omega
      clear hend;rcases hend2 with h5 | ⟨h5,h6⟩
      all_goals
       go_wp2_with fail
       refine (refAdd_any ou2.rd (Nat.le_refl _) ov2.rd (Nat.le_refl _) (by omega) (by omega)).mono ?_;rintro e w3 ⟨zs,cz,vz,lz,a3,c3,rfl,o3,b3⟩;have s3:=b3.size;rw [HG.out] at vz;have HZ:Hid (val zs*p2 t=gI (val xs) (val ys)):=by unfold Hid;rw [vz,Int.mul_comm];exact HVAL.out
       clear vz h5;have bw3:Below w.heap.size w w3:=hbl2.trans (b3.mono hs2);go_wp2
       go_loopw [5,6] (fun tt gg wr3=>∃ (t':Nat) (us3:List Int) (a4:Option Addr) (c4:Nat),t'≤t∧tt=.int .i64 t'∧can us3∧Hid (val us3*p2 t'=gI (val xs) (val ys))∧us3.length≤L+1∧gg=.slice a4 us3.length c4∧Own w.heap.size wr3 (.slice a4 us3.length c4) us3∧Below w.heap.size w wr3)
        (fun tt _ _=>(intOf tt).toNat)
       case atStart=>exact ⟨t,zs,a3,c3,Nat.le_refl _,rfl,cz,HZ,by omega,rfl,o3.mono hs2,bw3⟩
       case round=>
        obtain ⟨t',us3,a4,c4,htt,rfl,cu3,hval3,lu3,rfl,ou3,hbl3⟩:=hrel;have hs3:=hbl3.size;by_cases ht0:t'=0
        · subst ht0
          have HE:Hid (val us3=gI (val xs) (val ys)):=by have:=hval3.out;unfold Hid;simpa [p2] using this
          go_wp2
          go_ret
          exact ⟨us3,cu3,HE.out,lu3,a4,c4,rfl,ou3,hbl3⟩
        · go_wp2_with fail
          refine (refTwice_any 0 (by omega) ou3.rd (Nat.le_refl _) (by omega)).mono ?_;rintro e w5 ⟨z5,can5,v5,a5,c5,rfl,o5,bl5⟩;have HV5:Hid (val z5*p2 (t' - 1)=gI (val xs) (val ys)):=by
           unfold Hid;rw [v5,← hval3.out];obtain ⟨k,rfl⟩:∃ k,t'=k+1:=⟨t' - 1,by omega⟩;rw [p2_succ,Int.add_zero,Nat.add_sub_cancel,Int.mul_assoc,Int.mul_left_comm]
          have hl5:z5.length≤L+1:=len_of_lt can5 (by
           have h6:=gI_le (val xs) (val ys) HA.out.1 HY.out.1;have h7:=HA.out;have h8:=HY.out;have h9:val z5*1≤val z5*p2 (t' - 1):=Int.mul_le_mul_of_nonneg_left (by have:=p2_pos (t' - 1);omega) (val_bound can5.1).1;have:=HV5.out;rw [pw_succ];omega)
          clear v5;go_wp2
          go_roundw
          case rel=>exact ⟨t' - 1,z5,a5,c5,by omega,by go_num,can5,HV5,hl5,rfl,o5.mono hs3,hbl3.trans (bl5.mono hs3)⟩
          case measure=>simp [intOf];omega
    · have hu1:0<us2.length:=by omega
      have hv1:0<vs2.length:=by omega
      clear hend;have hup:=pos_len cu2 (by omega);have hvp:=pos_len cv2 (by omega);have mu:=val_mod2 us2;have mv:=val_mod2 vs2;have ru:=lim_getD cu2.1 0;have rv:=lim_getD cv2.1 0;have bu:=(val_bound cu2.1).2;have bv:=(val_bound cv2.1).2;have HP:Hid (0<val us2∧0<val vs2∧val us2<pw us2.length∧val vs2<pw vs2.length):=⟨hup,hvp,bu,bv⟩;obtain ⟨g1,f1,rfl,k1⟩:=low_cell ou2 (by omega);obtain ⟨g2,f2,rfl,k2⟩:=low_cell ov2 (by omega);have hodd:=hval2.out.2;have hG2:=hval2.out.1;clear hup hvp bu bv;by_cases hue:us2.getD 0 0 % 2=0
      · have e1:bits .and .u32 (us2.getD 0 0) 1=0:=by rw [ref_and_one_u32 _ ru.1 ru.2];exact hue
        have hvo:¬ val vs2 % 2=0:=by
         rcases hodd with h | h | h | h
         · have:=HP.out;omega
         · have:=HP.out;omega
         · exact absurd (mu.trans hue) h
         · exact h
        have HG3:Hid (G=gI (val us2/2) (val vs2)∧Odd1 (val us2/2) (val vs2)):=⟨by rw [hG2];exact gI_even _ _ HN.out.1 HN.out.2 (mu.trans hue) hvo,Or.inr (Or.inr (Or.inr hvo))⟩;clear hodd hG2 hvo mu mv hval2;generalize us2.getD 0 0=U at *;generalize vs2.getD 0 0=V at *
        go_wp2_with fail
        refine (refHalf_any ou2.rd (Nat.le_refl _) (by omega)).mono ?_;rintro e w3 ⟨z1,cz1,vz1,a3,c3,rfl,o3,b3⟩;have s3:=b3.size;have ov3:=ov2.below b3 (Nat.le_refl _);rw [← vz1] at HG3;have HZ1:Hid (val z1=val us2/2):=vz1;clear vz1;have l1:z1.length≤us2.length:=len_of_lt cz1 (by have:=HZ1.out;have:=HP.out;omega);go_wp2
        go_roundg (val z1+val vs2).toNat
        case measure=>have:=hg2.out;have:=HZ1.out;have:=HP.out;omega
        case rel=>exact ⟨z1,vs2,a3,c3,_,c2',rfl,cz1,cv2,HG3,by omega,lv2,rfl,rfl,o3.mono hs2,ov3,hbl2.trans (b3.mono hs2)⟩
      · have e1:bits .and .u32 (us2.getD 0 0) 1=1:=by rw [ref_and_one_u32 _ ru.1 ru.2];omega
        have huo:¬ val us2 % 2=0:=fun h=>hue (mu.symm.trans h);by_cases hve:vs2.getD 0 0 % 2=0
        · have e2:bits .and .u32 (vs2.getD 0 0) 1=0:=by rw [ref_and_one_u32 _ rv.1 rv.2];exact hve
          have HG3:Hid (G=gI (val us2) (val vs2/2)∧Odd1 (val us2) (val vs2/2)):=⟨by rw [hG2];exact gI_even' _ _ HN.out.1 HN.out.2 (mv.trans hve) huo,Or.inr (Or.inr (Or.inl huo))⟩;clear hodd hG2 huo mu mv hval2;generalize us2.getD 0 0=U at *;generalize vs2.getD 0 0=V at *
          go_wp2_with fail
          refine (refHalf_any ov2.rd (Nat.le_refl _) (by omega)).mono ?_;rintro e w3 ⟨z1,cz1,vz1,a3,c3,rfl,o3,b3⟩;have s3:=b3.size;have ou3:=ou2.below b3 (Nat.le_refl _);rw [← vz1] at HG3;have HZ1:Hid (val z1=val vs2/2):=vz1;clear vz1;have l1:z1.length≤vs2.length:=len_of_lt cz1 (by have:=HZ1.out;have:=HP.out;omega);go_wp2
          go_roundg (val us2+val z1).toNat
          case measure=>have:=hg2.out;have:=HZ1.out;have:=HP.out;omega
          case rel=>exact ⟨us2,z1,_,c2,a3,c3,rfl,cu2,cz1,HG3,lu2,by omega,rfl,rfl,ou3,o3.mono hs2,hbl2.trans (b3.mono hs2)⟩
        · have e2:bits .and .u32 (vs2.getD 0 0) 1=1:=by rw [ref_and_one_u32 _ rv.1 rv.2];omega
          have hvo:¬ val vs2 % 2=0:=fun h=>hve (mv.symm.trans h);have HUV:Hid (¬ val us2 % 2=0∧¬ val vs2 % 2=0):=⟨huo,hvo⟩;clear hodd huo hvo mu mv;generalize us2.getD 0 0=U at *;generalize vs2.getD 0 0=V at *;by_cases hge:val vs2≤val us2
          · obtain ⟨cm,hcm,hcm0⟩:∃ cm,cmpI (val us2) (val vs2)=cm∧0≤cm:=by
             by_cases he:val us2=val vs2
             · exact ⟨0,cmpI_eq he,by omega⟩
             · exact ⟨1,cmpI_gt (by omega),by omega⟩
            have HG3:Hid (G=gI (val us2 - val vs2) (val vs2)∧Odd1 (val us2 - val vs2) (val vs2)):=⟨by rw [hG2];exact gI_sub _ _ HN.out.2 hge,Or.inr (Or.inr (Or.inr HUV.out.2))⟩;have HGE:Hid (val vs2≤val us2):=hge;clear hge hG2 hval2
            go_wp2_with fail
            refine (refCompare_rd ou2.rd ov2.rd (Nat.le_refl _) (by omega) (by omega)).mono ?_;rintro e w3 ⟨rfl,b3⟩;rw [hcm];clear hcm;have s3:=b3.size;have ou3:=ou2.below b3 (Nat.le_refl _);have ov3:=ov2.below b3 (Nat.le_refl _)
            go_wp2_with fail
            refine (refMinus_any ou3.rd (Nat.le_refl _) ov3.rd (Nat.le_refl _) (by omega) (by omega)).mono ?_;rintro e w4 ⟨bl4,hmin⟩;rw [if_neg (by have:=HGE.out;omega)] at hmin;obtain ⟨z1,a4,c4,cz1,vz1,rfl,o4⟩:=hmin;have s4:=bl4.size;have ov4:=ov3.below bl4 (Nat.le_refl _);rw [← vz1] at HG3;have HZ1:Hid (val z1=val us2 - val vs2):=vz1;clear vz1;have l1:z1.length≤us2.length:=len_of_lt cz1 (by have:=HZ1.out;have:=HP.out;omega);go_wp2
            go_roundg (val z1+val vs2).toNat
            case measure=>have:=hg2.out;have:=HZ1.out;have:=HP.out;omega
            case rel=>exact ⟨z1,vs2,a4,c4,_,c2',rfl,cz1,cv2,HG3,by omega,lv2,rfl,rfl,o4.mono (by omega),ov4,hbl2.trans ((b3.mono hs2).trans (bl4.mono (by omega)))⟩
          · have hcm:=cmpI_lt (show val us2<val vs2 by omega)
            have HG3:Hid (G=gI (val us2) (val vs2 - val us2)∧Odd1 (val us2) (val vs2 - val us2)):=⟨by rw [hG2];exact gI_sub' _ _ HN.out.1 (by omega),Or.inr (Or.inr (Or.inl HUV.out.1))⟩;have HGE:Hid (val us2<val vs2):=by unfold Hid;omega
            clear hge hG2 hval2
            go_wp2_with fail
            refine (refCompare_rd ou2.rd ov2.rd (Nat.le_refl _) (by omega) (by omega)).mono ?_;rintro e w3 ⟨rfl,b3⟩;rw [hcm];clear hcm;have s3:=b3.size;have ou3:=ou2.below b3 (Nat.le_refl _);have ov3:=ov2.below b3 (Nat.le_refl _)
            go_wp2_with fail
            refine (refMinus_any ov3.rd (Nat.le_refl _) ou3.rd (Nat.le_refl _) (by omega) (by omega)).mono ?_;rintro e w4 ⟨bl4,hmin⟩;rw [if_neg (by have:=HGE.out;omega)] at hmin;obtain ⟨z1,a4,c4,cz1,vz1,rfl,o4⟩:=hmin;have s4:=bl4.size;have ou4:=ou3.below bl4 (Nat.le_refl _);rw [← vz1] at HG3;have HZ1:Hid (val z1=val vs2 - val us2):=vz1;clear vz1;have l1:z1.length≤vs2.length:=len_of_lt cz1 (by have:=HZ1.out;have:=HP.out;omega);go_wp2
            go_roundg (val us2+val z1).toNat
            case measure=>have:=hg2.out;have:=HZ1.out;have:=HP.out;omega
            case rel=>exact ⟨us2,z1,_,c2,a4,c4,rfl,cu2,cz1,HG3,lu2,by omega,rfl,rfl,ou4,o4.mono (by omega),hbl2.trans ((b3.mono hs2).trans (bl4.mono (by omega)))⟩
theorem refGcd_any {Lb k M:Nat} {vs:List Value} {xss:List (List Int)} {w:World} (hm:Many w Lb k vs xss) (hk:k≤1000) (hM:M≤100000) (hs:∀ j,j<k→(xss.getD j []).length≤M) :
    Calls Tryz.prog 124 #[.slice (some ⟨Lb,0,none⟩) k k] w fun e w'=>∃ zs,can zs∧val zs=gcdV xss∧Makes w e w' zs:=by
 go_enter Tryz.func124,Tryz.ntmps124;go_wp2
 go_loopw [3,4] (fun s ii wr=>∃ (i:Nat) (zs:List Int) (a:Option Addr) (c:Nat),i≤k∧ii=.int .i64 i∧can zs∧Hid (val zs=gcdV (xss.take i))∧zs.length≤M+i∧s=.slice a zs.length c∧Own w.heap.size wr (.slice a zs.length c) zs∧Below w.heap.size w wr)
  (fun _ ii _=>k - (intOf ii).toNat)
 case atStart=>exact ⟨0,[],none,0,Nat.zero_le _,rfl,can_nil,rfl,by simp,rfl,own_nil _ _,Below.refl _ _⟩
 case round=>
  obtain ⟨i,zs,a,c,hik,rfl,hcan,hval,hlen,rfl,hown,hbl⟩:=hrel;by_cases hlt:i<k
  · have hcell:wr.cell? ⟨Lb,i,none⟩=some (vs.getD i (.bool false)):=(hbl.cell hm.lt).trans (hm.cell i hlt)
    have hrd:Rd w.heap.size wr (vs.getD i (.bool false)) (xss.getD i []):=(hm.rd i hlt).below hbl;have hsz:=hbl.size;have hl:=hs i hlt;have HE:Hid (gcdV (xss.take (i+1))=gI (gcdV (xss.take i)) (val (xss.getD i []))):=gcdV_succ xss i (by rw [hm.lx];exact hlt);generalize hV:vs.getD i (.bool false)=V at *;generalize xss.getD i []=ys at *;clear hV
    go_wp2_with fail
    refine (refgcd_any hown.rd (Nat.le_refl _) hrd hsz (M+i) hlen (by omega) (by omega)).mono ?_;rintro e w2 ⟨us,cu,vu,lu,a3,c3,rfl,ho3,hb3⟩;have HU:Hid (val us=gcdV (xss.take (i+1))):=by unfold Hid;rw [HE.out,vu,hval.out]
    clear vu;go_wp2
    go_roundw
    case rel=>exact ⟨i+1,us,a3,c3,by omega,by go_num,cu,HU,by omega,rfl,ho3.mono hsz,hbl.trans (hb3.mono hsz)⟩
    case measure=>simp [intOf];omega
  · obtain rfl:i=k:=by omega
    go_wp2
    go_ret
    exact ⟨zs,hcan,by rw [hval.out,← hm.lx,List.take_length],a,c,rfl,hown,hbl⟩
theorem refOne_any (w:World):Calls Tryz.prog 125 #[] w fun e w'=>∃ ds a c,Hid (ds=[(1:Int)])∧e=.returned (.slice a ds.length c)∧Own w.heap.size w' (.slice a ds.length c) ds∧Below w.heap.size w w':=by
 have hO:Own w.heap.size (w.alloc (.cells #[.int .u32 1] 92)) (.slice (some ⟨w.heap.size,0,none⟩) 1 1) [1]:=⟨can_one.1,World.ownsRow_lit w #[.int .u32 1] 1 (Nat.le_refl _) (by unfold maxLen;omega) rfl⟩;go_enter Tryz.func125,Tryz.ntmps125;go_wp2
 go_ret
 exact ⟨[1],some ⟨w.heap.size,0,none⟩,1,rfl,rfl,hO,below_alloc _ _⟩
theorem cmpI_zero' {a b:Int}:cmpI a b=0↔a=b:=by
 unfold cmpI
 split
 · omega
 · split <;> omega
theorem one_val':val [(1:Int)]=1:=by decide
theorem gcdV_two (x y:List Int) (hx:0≤val x):gcdV [x,y]=gI (val x) (val y):=by
 simp only [gcdV,List.foldl];rw [gI_zero_left _ hx]
theorem gI_len {g us vs:List Int} (cg:can g) (cv:can vs) (vg:val g=gI (val us) (val vs)) (hu:0≤val us) (hv:0<val vs):g.length≤vs.length:=by
 have hgp:0<val g:=by rw [vg];exact gI_pos _ _ hu hv
 obtain ⟨_,⟨k2,hk2,_⟩⟩:=gI_dvd (val us) (val vs) hu (Int.le_of_lt hv);rw [← vg] at hk2;rw [can_len_pw cg];have h5:val g≤val vs:=by
  rcases Int.lt_or_le 0 k2 with h7 | h7
  · have:=Int.mul_le_mul_of_nonneg_right (show (1:Int)≤k2 by omega) (Int.le_of_lt hgp)
    omega
  · have:k2*val g≤0:=Int.mul_nonpos_of_nonpos_of_nonneg h7 (Int.le_of_lt hgp)
    omega
 have h6:=(can_len_pw cv vs.length).1 (Nat.le_refl _);omega
theorem refRight_rat {w:World} {b:Bool} {a1 a2:Option Addr} {c1 c2:Nat} {ns ds:List Int} (h1:Rd w.heap.size w (.slice a1 ns.length c1) ns) (h2:Rd w.heap.size w (.slice a2 ds.length c2) ds) :
    Calls Tryz.prog 71 #[.agg #[.bool b,.slice a1 ns.length c1,.slice a2 ds.length c2]] w fun e w'=>TellsP (RightP b ns ds) e∧Below w.heap.size w w':=by
 have X:=nvar_new (b:=b) h1 h2;have g:=below_alloc w (.cells #[.bool b,.slice a1 ns.length c1,.slice a2 ds.length c2] 34);have c1i:=rightB_can h1.lim;have c2i:=rightB_can h2.lim;have n0:=(val_bound h1.lim).1;obtain ⟨x0,x1,x2⟩:=X.cells;go_enter Tryz.func71,Tryz.ntmps71
 go_wp2_with fail
 generalize hA:w.alloc (.cells #[.bool b,.slice a1 ns.length c1,.slice a2 ds.length c2] 34)=v at *;clear hA;refine (refRight_any X.rn).mono ?_;rintro e w' ⟨rfl,rfl⟩
 cases hr1:rightB ns with
 | false=>
  have HX:Hid (¬ can ns):=by intro h;rw [c1i.2 h] at hr1;cases hr1
  clear c1i c2i hr1;go_wp2
  go_ret
  exact ⟨TellsP.no (fun h=>HX.out h.2.2.1),g⟩
 | true=>
  have H1:Hid (can ns):=c1i.1 hr1;clear c1i hr1
  go_wp2_with fail
  refine (refRight_any X.rd).mono ?_;rintro e w' ⟨rfl,rfl⟩
  cases hr2:rightB ds with
  | false=>
   have HX:Hid (¬ can ds):=by intro h;rw [c2i.2 h] at hr2;cases hr2
   clear c2i hr2;go_wp2
   go_ret
   exact ⟨TellsP.no (fun h=>HX.out h.2.2.2.1),g⟩
  | true=>
   have H2:Hid (can ds):=c2i.1 hr2;clear c2i hr2;by_cases hd0:0<ds.length
   · have hdb:((ds.length:Int)==0)=false:=by rw [beq_eq_false_iff_ne];omega
     by_cases q1:32<ns.length
     · go_wp2
       go_ret
       exact ⟨TellsP.no (fun h=>by have:=h.1;omega),g⟩
     by_cases q2:32<ds.length
     · go_wp2
       go_ret
       exact ⟨TellsP.no (fun h=>by have:=h.2.1;omega),g⟩
     by_cases hbz:b=true∧ns.length=0
     · obtain ⟨rfl,hz⟩:=hbz
       have hz':¬ 0<ns.length:=by omega
       have HX:Hid (¬ RightP true ns ds):=fun h=>h.2.2.2.2.1 ⟨rfl,hz⟩;have hzb:((ns.length:Int)==0)=true:=by rw [hz];rfl
       clear hz;go_wp2
       go_ret
       exact ⟨TellsP.no HX.out,g⟩
     · have HB:Hid (¬ (b=true∧ns.length=0)):=hbz
       have hcs:(((ns.length:Int)==0)=true∧b=false)∨((ns.length:Int)==0)=false:=by
        cases hh:((ns.length:Int)==0) with
        | false=>exact Or.inr rfl
        | true=>
         refine Or.inl ⟨rfl,?_⟩;rw [beq_iff_eq] at hh
         cases b with
         | false=>rfl
         | true=>exact absurd ⟨rfl,by omega⟩ hbz
       clear hbz;rcases hcs with ⟨hnb,rfl⟩ | hnb
       all_goals
        have hm:=many2 X.rn X.rd (Nat.le_refl _) (Nat.le_refl _)
        go_wp2_with fail
        refine (refGcd_any (M:=32) hm (by omega) (by omega) (fun j hj=>by match j,hj with | 0,_=>exact Nat.le_of_not_lt q1 | 1,_=>exact Nat.le_of_not_lt q2)).mono ?_
        rintro e wa ⟨zs,cz,vz,hmk⟩;obtain ⟨a3,c3,rfl,o3,ka⟩:=Makes.alloc (w:=v) hmk;clear hmk hm;have HZ:Hid (val zs=gI (val ns) (val ds)):=by unfold Hid;rw [vz];exact gcdV_two ns ds n0
        clear vz;have g1:Below w.heap.size w wa:=g.trans (ka.mono g.size);have lz:zs.length≤ds.length:=gI_len cz H2.out HZ.out n0 (by have h5:=can_low H2.out hd0;have h6:=pw_pos (ds.length - 1);omega)
        go_wp2_with fail
        refine (refOne_any _).mono ?_;rintro e wb ⟨os,a4,c4,HO,rfl,o4,kb⟩;have g2:Below w.heap.size w wb:=g1.trans (kb.mono g1.size);have lo:os.length≤1:=by rw [HO.out];exact Nat.le_refl _
        go_wp2_with fail
        refine (refCompare_rd (o3.below kb (Nat.le_refl _)).rd o4.rd (Nat.le_refl _) (by clear n0;omega) (by clear n0;omega)).mono ?_;rintro e wc ⟨rfl,kc⟩;have g3:Below w.heap.size w wc:=g2.trans (kc.mono g2.size);have HV:Hid (val os=1):=by unfold Hid;rw [HO.out];exact one_val'
        rw [HV.out];by_cases hz:val zs=1
        · have HG:Hid (gI (val ns) (val ds)=1):=by unfold Hid;rw [← HZ.out];exact hz
          rw [cmpI_eq hz];clear hz;go_wp2
          go_ret
          exact ⟨TellsP.yes ⟨by omega,by omega,H1.out,H2.out,(by first | exact HB.out | (have h5:=HB.out;simpa using h5)),hd0,HG.out⟩,g3⟩
        · have HG:Hid (¬ gI (val ns) (val ds)=1):=by unfold Hid;rw [← HZ.out];exact hz
          have hcb:(cmpI (val zs) 1==0)=false:=by
           rw [beq_eq_false_iff_ne];intro h5;exact hz (cmpI_zero'.1 h5)
          clear hz;go_wp2
          go_ret
          exact ⟨TellsP.no (fun h=>HG.out h.2.2.2.2.2.2),g3⟩
   · have hdb:((ds.length:Int)==0)=true:=by rw [beq_iff_eq];omega
     go_wp2
     go_ret
     exact ⟨TellsP.no (fun h=>hd0 h.2.2.2.2.2.1),g⟩
section
variable {w:World} {b:Bool} {a1 a2 a3 a4:Option Addr} {c1 c2 c3 c4:Nat} {xs ys ns ds:List Int}
end
end Go.Proofs.YtheaeggecpfcbaaGreat
