/- Two numbers come in, a number goes out: the variables. rat.Sub, rat.Sign. -/
import Derived.Test.YtheaeggecpfcbaaGreatJ4
import Derived.Test.YtheaeggecpfcbaaGreatJ5
import Derived.Test.YtheaeggecpfcbaaGreatJ2
import Derived.Test.YtheaeggecpfcbaaGreatJ3
import Derived.Deep.RegionHeld3
set_option maxHeartbeats 800000
set_option linter.unusedVariables false
set_option linter.unusedSimpArgs false
namespace Go.Proofs.YtheaeggecpfcbaaGreat
open Go.RowKit
section
variable {B:Nat} {w:World} {bx cy:Bool} {a1 a2 a3 a4:Option Addr} {c1 c2 c3 c4:Nat} {xn xd yn yd:List Int}
end
section
variable {B:Nat} {w:World} {bx cy:Bool} {a1 a2 a3 a4:Option Addr} {c1 c2 c3 c4:Nat} {xn xd yn yd:List Int}
end
theorem or_zero_left (x:Int) (h:0≤x∧x<18446744073709551616):bits .or .u64 0 x=x:=by
 obtain ⟨a,rfl⟩:=Int.eq_ofNat_of_zero_le h.1;have:=bits_or_u64_nat 0 a (by omega) (by omega);rw [Nat.zero_or] at this;exact this
theorem or_add_right (q v:Int) (hq:0≤q∧q<4294967296) (hv:0≤v∧v<4294967296):bits .or .u64 v (q*4294967296)=v+q*4294967296:=by
 obtain ⟨a,rfl⟩:=Int.eq_ofNat_of_zero_le hq.1;obtain ⟨b,rfl⟩:=Int.eq_ofNat_of_zero_le hv.1;have e:((a:Int)*4294967296)=((a*4294967296:Nat):Int):=by omega
 rw [e,bits_or_u64_nat _ _ (by omega) (by omega)];have h:b ||| a*4294967296=a*4294967296+b:=by
  have:=Nat.two_pow_add_eq_or_of_lt (i:=32) (b:=b) (by omega) a;rw [Nat.mul_comm,Nat.or_comm];exact this.symm
 rw [h];omega
theorem word_two (b o c:Nat) (x y:Int) (w:World) (hx:0≤x∧x<4294967296) (hy:0≤y∧y<4294967296) (k1:w.cell? ⟨b,o,none⟩=some (.int .u32 x)) (k2:w.cell? ⟨b,o+1,none⟩=some (.int .u32 y)) :
    Calls Tryz.prog 171 #[.slice (some ⟨b,o,none⟩) 2 c] w fun e w'=>e=.returned (.int .u64 (x+y*4294967296))∧w=w':=by
 have e1:=or_zero_left x (by omega);have e2:=or_add_right y x hy hx;go_enter Tryz.func171,Tryz.ntmps171;go_wp2
 refine wp_loop_rounds 3 ?_;rw [rounds_succ];go_wp2
 rw [rounds_succ];go_wp2
 rw [rounds_succ];go_wp2
 go_ret
 exact ⟨rfl,rfl⟩
theorem word_one (b o c:Nat) (x:Int) (w:World) (hx:0≤x∧x<4294967296) (k1:w.cell? ⟨b,o,none⟩=some (.int .u32 x)) :
    Calls Tryz.prog 171 #[.slice (some ⟨b,o,none⟩) 1 c] w fun e w'=>e=.returned (.int .u64 x)∧w=w':=by
 have e1:=or_zero_left x (by omega);go_enter Tryz.func171,Tryz.ntmps171;go_wp2
 refine wp_loop_rounds 2 ?_;rw [rounds_succ];go_wp2
 rw [rounds_succ];go_wp2
 go_ret
 exact ⟨rfl,rfl⟩
theorem word_zero (a:Option Addr) (c:Nat) (w:World) :
    Calls Tryz.prog 171 #[.slice a 0 c] w fun e w'=>e=.returned (.int .u64 0)∧w=w':=by
 go_enter Tryz.func171,Tryz.ntmps171;go_wp2
 refine wp_loop_rounds 1 ?_;rw [rounds_succ];go_wp2
 go_ret
 exact ⟨rfl,rfl⟩
/-- nat.word of at most two limbs: the number. -/
theorem word_rd {B:Nat} {w:World} {v:Value} {xs:List Int} (h:Rd B w v xs) (h2:xs.length≤2) :
    Calls Tryz.prog 171 #[v] w fun e w'=>e=.returned (.int .u64 (val xs))∧w=w':=by
 obtain ⟨hl,a,c,rfl,_,_,_,r⟩:=h
 match xs,h2 with
 | [],_=>exact word_zero a c w
 | [x],_=>
  rcases r with r | ⟨b,o,rfl,_,k⟩
  · simp at r
  · have e:val [x]=x:=by simp [val]
    rw [e];exact word_one b o c x w (hl x (by simp)) (k 0 (by simp))
 | [x,y],_=>
  rcases r with r | ⟨b,o,rfl,_,k⟩
  · simp at r
  · have e:val [x,y]=x+y*4294967296:=by simp [val];rw [Int.mul_comm]
    rw [e];exact word_two b o c x y w (hl x (by simp)) (hl y (by simp)) (k 0 (by simp)) (k 1 (by simp))
/-- A number as an int, if it is below 2^63. -/
def smallV (n:Int):Value:=.tuple #[.int .i64 (if n<9223372036854775808 then n else 0),.bool (decide (n<9223372036854775808))]
theorem smallV_lt {n:Int} (h:n<9223372036854775808):smallV n=.tuple #[.int .i64 n,.bool true]:=by unfold smallV;rw [if_pos h,decide_eq_true h]
theorem smallV_ge {n:Int} (h:9223372036854775808≤n):smallV n=.tuple #[.int .i64 0,.bool false]:=by unfold smallV;rw [if_neg (by omega),decide_eq_false (by omega)]
theorem isBits_63 {n:Int} {b:Nat} (h:isBits n b) (h0:0≤n):b≤63↔n<9223372036854775808:=by
 have e:p2 63=9223372036854775808:=by decide
 rcases h with ⟨rfl,rfl⟩ | ⟨h1,h2,h3⟩
 · exact ⟨fun _=>by omega,fun _=>by omega⟩
 · constructor
   · intro hb
     have:=p2_mono (j:=b) (k:=63) hb;omega
   · intro hn
     by_cases hb:b≤63
     · exact hb
     · have:=p2_mono (j:=63) (k:=b - 1) (by omega)
       omega
theorem can_two {us:List Int} (h:can us) (hv:val us<18446744073709551616):us.length≤2:=by
 by_cases hl:us.length≤2
 · exact hl
 · have h1:=can_low h (by omega)
   have h2:=pw_mono (j:=2) (k:=us.length - 1) (by omega);have e:pw 2=18446744073709551616:=by decide
   omega
/-- nat.Small. -/
theorem small_any {B:Nat} {w:World} {v:Value} {xs:List Int} (h:Rd B w v xs) (hn:xs.length≤17592186044415) :
    Calls Tryz.prog 176 #[v] w fun e w'=>e=.returned (smallV (val xs))∧w=w':=by
 have h0:=(val_bound h.lim).1;have m:=meant_rd h;have t:=h.meant;have ct:=tr_can h.lim;rw [← tr_length] at m t;have hv:=val_tr xs;go_enter Tryz.func176,Tryz.ntmps176
 go_wp2_with fail
 refine (bits_any h hn).mono ?_;rintro e w' ⟨b,rfl,hb,hbl,rfl⟩;have h63:=isBits_63 hb h0;clear hb;generalize hV:val xs=V at *;by_cases hlt:V<9223372036854775808
 · have hb63:b≤63:=h63.2 hlt
   have hl2:(tr xs).length≤2:=can_two ct (by omega);have hw:=word_rd t hl2;rw [hv] at hw;have HV:Hid (val xs=V):=hV;clear h63 hv hV
   go_wp2_with fail
   refine m.mono ?_;rintro e w' ⟨rfl,rfl⟩
   go_wp2_with fail
   refine hw.mono ?_;rintro e w' ⟨rfl,rfl⟩;go_wp2
   go_ret2
   refine ⟨?_,rfl⟩;rw [HV.out,smallV_lt hlt];rfl
 · have hb63:¬ b≤63:=fun hb=>hlt (h63.1 hb)
   have hb63':63<b:=by omega
   have HV:Hid (val xs=V):=hV;clear h63 hv hV;go_wp2
   go_ret2
   refine ⟨?_,rfl⟩;rw [HV.out,smallV_ge (by omega)];rfl
/-- The number without its j lowest bits. -/
def sh (A:Int) (j:Nat):Int:=A/p2 j
section
variable {w:World} {b:Bool} {a1 a2 a3 a4:Option Addr} {c1 c2 c3 c4:Nat} {xs ys ns ds:List Int}
end
end Go.Proofs.YtheaeggecpfcbaaGreat
