/- The first region of RatReckons: two numbers are copied into two new variables. What is said goes by what has come up, whatever the order. -/
import Derived.Test.YtonjbpnpknpbeaaGreatDoorJ8
import Derived.Deep.Cut
import Derived.Deep.CutRange
import Derived.Deep.RegionHeld3
import Derived.Test.YtonjbpnpknpbeaaGreatDoorJ9
import Derived.Test.YtonjbpnpknpbeaaGreatDoorJA
import Derived.Test.YtonjbpnpknpbeaaGreatDoorJ5
import Derived.SizedLaws
namespace Go.Proofs.YtonjbpnpknpbeaaGreatDoor
set_option linter.unusedVariables false
set_option linter.unusedSimpArgs false
open Go.RowKit

def fops : Array Oper := #[
  { dst := some 13, op := Op.load 24 (Operand.tmp 3), type := 24, pos := "law.go:44", after := #[], guard := none },
  { dst := some 14, op := Op.call { callee := Callee.value (Operand.func 4), args := #[Operand.tmp 13], argTypes := #[24] }, type := 24, pos := "law.go:44", after := #[{ on := 0, ground := Ground.data }], guard := none },
  { dst := some 15, op := Op.load 24 (Operand.tmp 4), type := 24, pos := "law.go:44", after := #[], guard := none },
  { dst := some 16, op := Op.call { callee := Callee.value (Operand.func 4), args := #[Operand.tmp 15], argTypes := #[24] }, type := 24, pos := "law.go:44", after := #[{ on := 2, ground := Ground.data }, { on := 1, ground := Ground.chain }], guard := none },
  { dst := some 7, op := Op.alloc 24, type := 0, pos := "law.go:44", after := #[], guard := none },
  { dst := some 8, op := Op.alloc 24, type := 0, pos := "law.go:44", after := #[], guard := none },
  { dst := none, op := Op.store 24 (Operand.tmp 7) (Operand.tmp 14), type := 0, pos := "law.go:44", after := #[{ on := 4, ground := Ground.data }, { on := 1, ground := Ground.data }, { on := 3, ground := Ground.chain }, { on := 0, ground := Ground.phase }, { on := 1, ground := Ground.phase }, { on := 2, ground := Ground.textOnly Departure.lateStores }, { on := 3, ground := Ground.textOnly Departure.lateStoresUnsure }, { on := 4, ground := Ground.phase }, { on := 5, ground := Ground.phase }], guard := none },
  { dst := none, op := Op.store 24 (Operand.tmp 8) (Operand.tmp 16), type := 0, pos := "law.go:44", after := #[{ on := 5, ground := Ground.data }, { on := 3, ground := Ground.data }, { on := 6, ground := Ground.chain }, { on := 0, ground := Ground.phase }, { on := 1, ground := Ground.phase }, { on := 2, ground := Ground.phase }, { on := 3, ground := Ground.phase }, { on := 4, ground := Ground.phase }, { on := 5, ground := Ground.phase }, { on := 6, ground := Ground.phase }], guard := none }]
section
variable {Q : Exit → Act → World → Prop} {v W : World} {kx ky k7 k8 : Nat} {bx cy : Bool} {a1 a2 a3 a4 x1 x2 x3 x4 : Option Addr} {c1 c2 c3 c4 y1 y2 y3 y4 : Nat} {xn xd yn yd : List Int} {t0 t1 t2 t3 t4 t5 t6 t7 t8 t9 t10 t11 t12 t13 t14 t15 t16 : Value} {r : List Value} {ds : List Deferred}

set_option maxRecDepth 100000 in
set_option maxHeartbeats 16000000 in
theorem fr_211 (X : NVar v kx bx a1 xn c1 a2 xd c2) (Y : NVar v ky cy a3 yn c3 a4 yd c4) (l1 : xn.length * 4 ≤ 140737488355328) (l2 : xd.length * 4 ≤ 140737488355328) (l3 : yn.length * 4 ≤ 140737488355328) (l4 : yd.length * 4 ≤ 140737488355328) (hQ : (∀ (k7 k8 : Nat) (x1 : Option Addr) (y1 : Nat) (x2 : Option Addr) (y2 : Nat) (x3 : Option Addr) (y3 : Nat) (x4 : Option Addr) (y4 : Nat) (W : World), KVar W k7 bx x1 xn y1 x2 xd y2 → KVar W k8 cy x3 yn y3 x4 yd y4 → Below v.heap.size v W → Q .normal { tmps := (t0 :: t1 :: t2 :: (.pointer (some ⟨kx, 0, none⟩)) :: (.pointer (some ⟨ky, 0, none⟩)) :: t5 :: t6 :: (.pointer (some ⟨k7, 0, none⟩)) :: (.pointer (some ⟨k8, 0, none⟩)) :: t9 :: t10 :: t11 :: t12 :: (.agg #[.bool bx, .slice a1 xn.length c1, .slice a2 xd.length c2]) :: (.agg #[.bool bx, .slice x1 xn.length y1, .slice x2 xd.length y2]) :: (.agg #[.bool cy, .slice a3 yn.length c3, .slice a4 yd.length c4]) :: (.agg #[.bool cy, .slice x3 yn.length y3, .slice x4 yd.length y4]) :: r).toArray, defers := ds } W)) (hS : Below v.heap.size v W) (r1 : Rd W.heap.size W (.slice x1 xn.length y1) xn) (r2 : Rd W.heap.size W (.slice x2 xd.length y2) xd) (r3 : Rd W.heap.size W (.slice x3 yn.length y3) yn) (r4 : Rd W.heap.size W (.slice x4 yd.length y4) yd) (P7 : RVar W k7) (h7 : v.heap.size ≤ k7) (P8 : RVar W k8) (h8 : v.heap.size ≤ k8) (hne : k7 ≠ k8) :
    wpAnyH Tryz.prog .any fops Q (fun W => Below v.heap.size v W) 2 #[true, true, true, true, true, true, false, false] { tmps := (t0 :: t1 :: t2 :: (.pointer (some ⟨kx, 0, none⟩)) :: (.pointer (some ⟨ky, 0, none⟩)) :: t5 :: t6 :: (.pointer (some ⟨k7, 0, none⟩)) :: (.pointer (some ⟨k8, 0, none⟩)) :: t9 :: t10 :: t11 :: t12 :: (.agg #[.bool bx, .slice a1 xn.length c1, .slice a2 xd.length c2]) :: (.agg #[.bool bx, .slice x1 xn.length y1, .slice x2 xd.length y2]) :: (.agg #[.bool cy, .slice a3 yn.length c3, .slice a4 yd.length c4]) :: (.agg #[.bool cy, .slice x3 yn.length y3, .slice x4 yd.length y4]) :: r).toArray, defers := ds } W := by
  obtain ⟨A, B⟩ := kv_old_old (b := bx) (c := cy) P7 P8 hne r1 r2 r3 r4
  have HQ : Hid _ := hQ k7 k8 x1 y1 x2 y2 x3 y3 x4 y4 _ A B (Below.set3 (Below.set3 hS h7 _ _ _) h8 _ _ _)
  have HS1 : Hid _ := Below.set3 hS h7 (.bool bx) (.slice x1 xn.length y1) (.slice x2 xd.length y2)
  have HS2 : Hid _ := Below.set3 (Below.set3 hS h7 (.bool bx) (.slice x1 xn.length y1) (.slice x2 xd.length y2)) h8 (.bool cy) (.slice x3 yn.length y3) (.slice x4 yd.length y4)
  have HB : Hid (Box3 (((W.setCell ⟨k7, 0, none⟩ (.bool bx)).setCell ⟨k7, 1, none⟩ (.slice x1 xn.length y1)).setCell ⟨k7, 2, none⟩ (.slice x2 xd.length y2)) k8 24 (.bool false) (.slice none 0 0) (.slice none 0 0)) := P8.box.other (fun h => hne h.symm) (.bool bx) (.slice x1 xn.length y1) (.slice x2 xd.length y2)
  have q0 := P7.box.c0
  have q1 := P7.box.c1
  have q2 := P7.box.c2
  have g0 := P7.box.f0
  have g1 := P7.box.f1
  have g2 := P7.box.f2
  clear A B hQ X Y r1 r2 r3 r4 P7 P8 hS l1 l2 l3 l4 h7 h8
  refine wpAnyH_ready (rs := [6]) (by kernel_rfl) (by simp) ?_
  refine AllReadyH.cons (o := { dst := none, op := Op.store 24 (Operand.tmp 7) (Operand.tmp 14), type := 0, pos := "law.go:44", after := #[{ on := 4, ground := Ground.data }, { on := 1, ground := Ground.data }, { on := 3, ground := Ground.chain }, { on := 0, ground := Ground.phase }, { on := 1, ground := Ground.phase }, { on := 2, ground := Ground.textOnly Departure.lateStores }, { on := 3, ground := Ground.textOnly Departure.lateStoresUnsure }, { on := 4, ground := Ground.phase }, { on := 5, ground := Ground.phase }], guard := none }) rfl (fun K hK => ?_) ?_
  · go_simp
    refine hK.out _ _ HS1.out (fun _ => ?_)
    clear hK K q0 q1 q2 g0 g1 g2 HS1
    have q0 := HB.out.c0
    have q1 := HB.out.c1
    have q2 := HB.out.c2
    have g0 := HB.out.f0
    have g1 := HB.out.f1
    have g2 := HB.out.f2
    clear HB
    refine wpAnyH_ready (rs := [7]) (by kernel_rfl) (by simp) ?_
    refine AllReadyH.cons (o := { dst := none, op := Op.store 24 (Operand.tmp 8) (Operand.tmp 16), type := 0, pos := "law.go:44", after := #[{ on := 5, ground := Ground.data }, { on := 3, ground := Ground.data }, { on := 6, ground := Ground.chain }, { on := 0, ground := Ground.phase }, { on := 1, ground := Ground.phase }, { on := 2, ground := Ground.phase }, { on := 3, ground := Ground.phase }, { on := 4, ground := Ground.phase }, { on := 5, ground := Ground.phase }, { on := 6, ground := Ground.phase }], guard := none }) rfl (fun K hK => ?_) ?_
    · go_simp
      refine hK.out _ _ HS2.out (fun _ => ?_)
      exact wpAnyH_done (by kernel_rfl) HQ.out _
    exact AllReadyH.nil
  exact AllReadyH.nil

set_option maxRecDepth 100000 in
set_option maxHeartbeats 16000000 in
theorem fr_210 (X : NVar v kx bx a1 xn c1 a2 xd c2) (Y : NVar v ky cy a3 yn c3 a4 yd c4) (l1 : xn.length * 4 ≤ 140737488355328) (l2 : xd.length * 4 ≤ 140737488355328) (l3 : yn.length * 4 ≤ 140737488355328) (l4 : yd.length * 4 ≤ 140737488355328) (hQ : (∀ (k7 k8 : Nat) (x1 : Option Addr) (y1 : Nat) (x2 : Option Addr) (y2 : Nat) (x3 : Option Addr) (y3 : Nat) (x4 : Option Addr) (y4 : Nat) (W : World), KVar W k7 bx x1 xn y1 x2 xd y2 → KVar W k8 cy x3 yn y3 x4 yd y4 → Below v.heap.size v W → Q .normal { tmps := (t0 :: t1 :: t2 :: (.pointer (some ⟨kx, 0, none⟩)) :: (.pointer (some ⟨ky, 0, none⟩)) :: t5 :: t6 :: (.pointer (some ⟨k7, 0, none⟩)) :: (.pointer (some ⟨k8, 0, none⟩)) :: t9 :: t10 :: t11 :: t12 :: (.agg #[.bool bx, .slice a1 xn.length c1, .slice a2 xd.length c2]) :: (.agg #[.bool bx, .slice x1 xn.length y1, .slice x2 xd.length y2]) :: (.agg #[.bool cy, .slice a3 yn.length c3, .slice a4 yd.length c4]) :: (.agg #[.bool cy, .slice x3 yn.length y3, .slice x4 yd.length y4]) :: r).toArray, defers := ds } W)) (hS : Below v.heap.size v W) (r1 : Rd W.heap.size W (.slice x1 xn.length y1) xn) (r2 : Rd W.heap.size W (.slice x2 xd.length y2) xd) (r3 : Rd W.heap.size W (.slice x3 yn.length y3) yn) (r4 : Rd W.heap.size W (.slice x4 yd.length y4) yd) (P7 : RVar W k7) (h7 : v.heap.size ≤ k7) :
    wpAnyH Tryz.prog .any fops Q (fun W => Below v.heap.size v W) 3 #[true, true, true, true, true, false, false, false] { tmps := (t0 :: t1 :: t2 :: (.pointer (some ⟨kx, 0, none⟩)) :: (.pointer (some ⟨ky, 0, none⟩)) :: t5 :: t6 :: (.pointer (some ⟨k7, 0, none⟩)) :: t8 :: t9 :: t10 :: t11 :: t12 :: (.agg #[.bool bx, .slice a1 xn.length c1, .slice a2 xd.length c2]) :: (.agg #[.bool bx, .slice x1 xn.length y1, .slice x2 xd.length y2]) :: (.agg #[.bool cy, .slice a3 yn.length c3, .slice a4 yd.length c4]) :: (.agg #[.bool cy, .slice x3 yn.length y3, .slice x4 yd.length y4]) :: r).toArray, defers := ds } W := by
  refine wpAnyH_ready (rs := [5]) (by kernel_rfl) (by simp) ?_
  refine AllReadyH.cons (o := { dst := some 8, op := Op.alloc 24, type := 0, pos := "law.go:44", after := #[], guard := none }) rfl (fun K hK => ?_) ?_
  · have kk := below_alloc W (.cells #[.bool false, .slice none 0 0, .slice none 0 0] 24)
    go_simp
    refine hK.out _ _ (hS.alloc hS.size _) (fun _ => ?_)
    exact fr_211 X Y l1 l2 l3 l4 hQ (hS.alloc hS.size _) ((r1.below kk).mono kk.size) ((r2.below kk).mono kk.size) ((r3.below kk).mono kk.size) ((r4.below kk).mono kk.size) (P7.below kk) h7 (rvar_new W) hS.size (fun h => by have := P7.lt; omega)
  exact AllReadyH.nil

set_option maxRecDepth 100000 in
set_option maxHeartbeats 16000000 in
theorem fr_201 (X : NVar v kx bx a1 xn c1 a2 xd c2) (Y : NVar v ky cy a3 yn c3 a4 yd c4) (l1 : xn.length * 4 ≤ 140737488355328) (l2 : xd.length * 4 ≤ 140737488355328) (l3 : yn.length * 4 ≤ 140737488355328) (l4 : yd.length * 4 ≤ 140737488355328) (hQ : (∀ (k7 k8 : Nat) (x1 : Option Addr) (y1 : Nat) (x2 : Option Addr) (y2 : Nat) (x3 : Option Addr) (y3 : Nat) (x4 : Option Addr) (y4 : Nat) (W : World), KVar W k7 bx x1 xn y1 x2 xd y2 → KVar W k8 cy x3 yn y3 x4 yd y4 → Below v.heap.size v W → Q .normal { tmps := (t0 :: t1 :: t2 :: (.pointer (some ⟨kx, 0, none⟩)) :: (.pointer (some ⟨ky, 0, none⟩)) :: t5 :: t6 :: (.pointer (some ⟨k7, 0, none⟩)) :: (.pointer (some ⟨k8, 0, none⟩)) :: t9 :: t10 :: t11 :: t12 :: (.agg #[.bool bx, .slice a1 xn.length c1, .slice a2 xd.length c2]) :: (.agg #[.bool bx, .slice x1 xn.length y1, .slice x2 xd.length y2]) :: (.agg #[.bool cy, .slice a3 yn.length c3, .slice a4 yd.length c4]) :: (.agg #[.bool cy, .slice x3 yn.length y3, .slice x4 yd.length y4]) :: r).toArray, defers := ds } W)) (hS : Below v.heap.size v W) (r1 : Rd W.heap.size W (.slice x1 xn.length y1) xn) (r2 : Rd W.heap.size W (.slice x2 xd.length y2) xd) (r3 : Rd W.heap.size W (.slice x3 yn.length y3) yn) (r4 : Rd W.heap.size W (.slice x4 yd.length y4) yd) (P8 : RVar W k8) (h8 : v.heap.size ≤ k8) :
    wpAnyH Tryz.prog .any fops Q (fun W => Below v.heap.size v W) 3 #[true, true, true, true, false, true, false, false] { tmps := (t0 :: t1 :: t2 :: (.pointer (some ⟨kx, 0, none⟩)) :: (.pointer (some ⟨ky, 0, none⟩)) :: t5 :: t6 :: t7 :: (.pointer (some ⟨k8, 0, none⟩)) :: t9 :: t10 :: t11 :: t12 :: (.agg #[.bool bx, .slice a1 xn.length c1, .slice a2 xd.length c2]) :: (.agg #[.bool bx, .slice x1 xn.length y1, .slice x2 xd.length y2]) :: (.agg #[.bool cy, .slice a3 yn.length c3, .slice a4 yd.length c4]) :: (.agg #[.bool cy, .slice x3 yn.length y3, .slice x4 yd.length y4]) :: r).toArray, defers := ds } W := by
  refine wpAnyH_ready (rs := [4]) (by kernel_rfl) (by simp) ?_
  refine AllReadyH.cons (o := { dst := some 7, op := Op.alloc 24, type := 0, pos := "law.go:44", after := #[], guard := none }) rfl (fun K hK => ?_) ?_
  · have kk := below_alloc W (.cells #[.bool false, .slice none 0 0, .slice none 0 0] 24)
    go_simp
    refine hK.out _ _ (hS.alloc hS.size _) (fun _ => ?_)
    exact fr_211 X Y l1 l2 l3 l4 hQ (hS.alloc hS.size _) ((r1.below kk).mono kk.size) ((r2.below kk).mono kk.size) ((r3.below kk).mono kk.size) ((r4.below kk).mono kk.size) (rvar_new W) hS.size (P8.below kk) h8 (fun h => by have := P8.lt; omega)
  exact AllReadyH.nil

set_option maxRecDepth 100000 in
set_option maxHeartbeats 16000000 in
theorem fr_200 (X : NVar v kx bx a1 xn c1 a2 xd c2) (Y : NVar v ky cy a3 yn c3 a4 yd c4) (l1 : xn.length * 4 ≤ 140737488355328) (l2 : xd.length * 4 ≤ 140737488355328) (l3 : yn.length * 4 ≤ 140737488355328) (l4 : yd.length * 4 ≤ 140737488355328) (hQ : (∀ (k7 k8 : Nat) (x1 : Option Addr) (y1 : Nat) (x2 : Option Addr) (y2 : Nat) (x3 : Option Addr) (y3 : Nat) (x4 : Option Addr) (y4 : Nat) (W : World), KVar W k7 bx x1 xn y1 x2 xd y2 → KVar W k8 cy x3 yn y3 x4 yd y4 → Below v.heap.size v W → Q .normal { tmps := (t0 :: t1 :: t2 :: (.pointer (some ⟨kx, 0, none⟩)) :: (.pointer (some ⟨ky, 0, none⟩)) :: t5 :: t6 :: (.pointer (some ⟨k7, 0, none⟩)) :: (.pointer (some ⟨k8, 0, none⟩)) :: t9 :: t10 :: t11 :: t12 :: (.agg #[.bool bx, .slice a1 xn.length c1, .slice a2 xd.length c2]) :: (.agg #[.bool bx, .slice x1 xn.length y1, .slice x2 xd.length y2]) :: (.agg #[.bool cy, .slice a3 yn.length c3, .slice a4 yd.length c4]) :: (.agg #[.bool cy, .slice x3 yn.length y3, .slice x4 yd.length y4]) :: r).toArray, defers := ds } W)) (hS : Below v.heap.size v W) (r1 : Rd W.heap.size W (.slice x1 xn.length y1) xn) (r2 : Rd W.heap.size W (.slice x2 xd.length y2) xd) (r3 : Rd W.heap.size W (.slice x3 yn.length y3) yn) (r4 : Rd W.heap.size W (.slice x4 yd.length y4) yd) :
    wpAnyH Tryz.prog .any fops Q (fun W => Below v.heap.size v W) 4 #[true, true, true, true, false, false, false, false] { tmps := (t0 :: t1 :: t2 :: (.pointer (some ⟨kx, 0, none⟩)) :: (.pointer (some ⟨ky, 0, none⟩)) :: t5 :: t6 :: t7 :: t8 :: t9 :: t10 :: t11 :: t12 :: (.agg #[.bool bx, .slice a1 xn.length c1, .slice a2 xd.length c2]) :: (.agg #[.bool bx, .slice x1 xn.length y1, .slice x2 xd.length y2]) :: (.agg #[.bool cy, .slice a3 yn.length c3, .slice a4 yd.length c4]) :: (.agg #[.bool cy, .slice x3 yn.length y3, .slice x4 yd.length y4]) :: r).toArray, defers := ds } W := by
  refine wpAnyH_ready (rs := [4, 5]) (by kernel_rfl) (by simp) ?_
  refine AllReadyH.cons (o := { dst := some 7, op := Op.alloc 24, type := 0, pos := "law.go:44", after := #[], guard := none }) rfl (fun K hK => ?_) ?_
  · have kk := below_alloc W (.cells #[.bool false, .slice none 0 0, .slice none 0 0] 24)
    go_simp
    refine hK.out _ _ (hS.alloc hS.size _) (fun _ => ?_)
    exact fr_210 X Y l1 l2 l3 l4 hQ (hS.alloc hS.size _) ((r1.below kk).mono kk.size) ((r2.below kk).mono kk.size) ((r3.below kk).mono kk.size) ((r4.below kk).mono kk.size) (rvar_new W) hS.size
  refine AllReadyH.cons (o := { dst := some 8, op := Op.alloc 24, type := 0, pos := "law.go:44", after := #[], guard := none }) rfl (fun K hK => ?_) ?_
  · have kk := below_alloc W (.cells #[.bool false, .slice none 0 0, .slice none 0 0] 24)
    go_simp
    refine hK.out _ _ (hS.alloc hS.size _) (fun _ => ?_)
    exact fr_201 X Y l1 l2 l3 l4 hQ (hS.alloc hS.size _) ((r1.below kk).mono kk.size) ((r2.below kk).mono kk.size) ((r3.below kk).mono kk.size) ((r4.below kk).mono kk.size) (rvar_new W) hS.size
  exact AllReadyH.nil

set_option maxRecDepth 100000 in
set_option maxHeartbeats 16000000 in
theorem fr_111 (X : NVar v kx bx a1 xn c1 a2 xd c2) (Y : NVar v ky cy a3 yn c3 a4 yd c4) (l1 : xn.length * 4 ≤ 140737488355328) (l2 : xd.length * 4 ≤ 140737488355328) (l3 : yn.length * 4 ≤ 140737488355328) (l4 : yd.length * 4 ≤ 140737488355328) (hQ : (∀ (k7 k8 : Nat) (x1 : Option Addr) (y1 : Nat) (x2 : Option Addr) (y2 : Nat) (x3 : Option Addr) (y3 : Nat) (x4 : Option Addr) (y4 : Nat) (W : World), KVar W k7 bx x1 xn y1 x2 xd y2 → KVar W k8 cy x3 yn y3 x4 yd y4 → Below v.heap.size v W → Q .normal { tmps := (t0 :: t1 :: t2 :: (.pointer (some ⟨kx, 0, none⟩)) :: (.pointer (some ⟨ky, 0, none⟩)) :: t5 :: t6 :: (.pointer (some ⟨k7, 0, none⟩)) :: (.pointer (some ⟨k8, 0, none⟩)) :: t9 :: t10 :: t11 :: t12 :: (.agg #[.bool bx, .slice a1 xn.length c1, .slice a2 xd.length c2]) :: (.agg #[.bool bx, .slice x1 xn.length y1, .slice x2 xd.length y2]) :: (.agg #[.bool cy, .slice a3 yn.length c3, .slice a4 yd.length c4]) :: (.agg #[.bool cy, .slice x3 yn.length y3, .slice x4 yd.length y4]) :: r).toArray, defers := ds } W)) (hS : Below v.heap.size v W) (r1 : Rd W.heap.size W (.slice x1 xn.length y1) xn) (r2 : Rd W.heap.size W (.slice x2 xd.length y2) xd) (P7 : RVar W k7) (h7 : v.heap.size ≤ k7) (P8 : RVar W k8) (h8 : v.heap.size ≤ k8) (hne : k7 ≠ k8) :
    wpAnyH Tryz.prog .any fops Q (fun W => Below v.heap.size v W) 3 #[true, true, true, false, true, true, false, false] { tmps := (t0 :: t1 :: t2 :: (.pointer (some ⟨kx, 0, none⟩)) :: (.pointer (some ⟨ky, 0, none⟩)) :: t5 :: t6 :: (.pointer (some ⟨k7, 0, none⟩)) :: (.pointer (some ⟨k8, 0, none⟩)) :: t9 :: t10 :: t11 :: t12 :: (.agg #[.bool bx, .slice a1 xn.length c1, .slice a2 xd.length c2]) :: (.agg #[.bool bx, .slice x1 xn.length y1, .slice x2 xd.length y2]) :: (.agg #[.bool cy, .slice a3 yn.length c3, .slice a4 yd.length c4]) :: t16 :: r).toArray, defers := ds } W := by
  refine wpAnyH_ready (rs := [3]) (by kernel_rfl) (by simp) ?_
  refine AllReadyH.cons (o := { dst := some 16, op := Op.call { callee := Callee.value (Operand.func 4), args := #[Operand.tmp 15], argTypes := #[24] }, type := 24, pos := "law.go:44", after := #[{ on := 2, ground := Ground.data }, { on := 1, ground := Ground.chain }], guard := none }) rfl (fun K hK => ?_) ?_
  · have V := Y.below hS
    go_simp
    refine (refCopy_any V.rn V.rd l3 l4).mono ?_
    rintro e wa ⟨kk, x3, y3, x4, y4, rfl, o1, o2⟩
    go_simp
    refine hK.out _ _ (hS.trans (kk.mono hS.size)) (fun _ => ?_)
    exact fr_211 X Y l1 l2 l3 l4 hQ (hS.trans (kk.mono hS.size)) ((r1.below kk).mono kk.size) ((r2.below kk).mono kk.size) o1.rd o2.rd (P7.below kk) h7 (P8.below kk) h8 hne
  exact AllReadyH.nil

set_option maxRecDepth 100000 in
set_option maxHeartbeats 16000000 in
theorem fr_110 (X : NVar v kx bx a1 xn c1 a2 xd c2) (Y : NVar v ky cy a3 yn c3 a4 yd c4) (l1 : xn.length * 4 ≤ 140737488355328) (l2 : xd.length * 4 ≤ 140737488355328) (l3 : yn.length * 4 ≤ 140737488355328) (l4 : yd.length * 4 ≤ 140737488355328) (hQ : (∀ (k7 k8 : Nat) (x1 : Option Addr) (y1 : Nat) (x2 : Option Addr) (y2 : Nat) (x3 : Option Addr) (y3 : Nat) (x4 : Option Addr) (y4 : Nat) (W : World), KVar W k7 bx x1 xn y1 x2 xd y2 → KVar W k8 cy x3 yn y3 x4 yd y4 → Below v.heap.size v W → Q .normal { tmps := (t0 :: t1 :: t2 :: (.pointer (some ⟨kx, 0, none⟩)) :: (.pointer (some ⟨ky, 0, none⟩)) :: t5 :: t6 :: (.pointer (some ⟨k7, 0, none⟩)) :: (.pointer (some ⟨k8, 0, none⟩)) :: t9 :: t10 :: t11 :: t12 :: (.agg #[.bool bx, .slice a1 xn.length c1, .slice a2 xd.length c2]) :: (.agg #[.bool bx, .slice x1 xn.length y1, .slice x2 xd.length y2]) :: (.agg #[.bool cy, .slice a3 yn.length c3, .slice a4 yd.length c4]) :: (.agg #[.bool cy, .slice x3 yn.length y3, .slice x4 yd.length y4]) :: r).toArray, defers := ds } W)) (hS : Below v.heap.size v W) (r1 : Rd W.heap.size W (.slice x1 xn.length y1) xn) (r2 : Rd W.heap.size W (.slice x2 xd.length y2) xd) (P7 : RVar W k7) (h7 : v.heap.size ≤ k7) :
    wpAnyH Tryz.prog .any fops Q (fun W => Below v.heap.size v W) 4 #[true, true, true, false, true, false, false, false] { tmps := (t0 :: t1 :: t2 :: (.pointer (some ⟨kx, 0, none⟩)) :: (.pointer (some ⟨ky, 0, none⟩)) :: t5 :: t6 :: (.pointer (some ⟨k7, 0, none⟩)) :: t8 :: t9 :: t10 :: t11 :: t12 :: (.agg #[.bool bx, .slice a1 xn.length c1, .slice a2 xd.length c2]) :: (.agg #[.bool bx, .slice x1 xn.length y1, .slice x2 xd.length y2]) :: (.agg #[.bool cy, .slice a3 yn.length c3, .slice a4 yd.length c4]) :: t16 :: r).toArray, defers := ds } W := by
  refine wpAnyH_ready (rs := [3, 5]) (by kernel_rfl) (by simp) ?_
  refine AllReadyH.cons (o := { dst := some 16, op := Op.call { callee := Callee.value (Operand.func 4), args := #[Operand.tmp 15], argTypes := #[24] }, type := 24, pos := "law.go:44", after := #[{ on := 2, ground := Ground.data }, { on := 1, ground := Ground.chain }], guard := none }) rfl (fun K hK => ?_) ?_
  · have V := Y.below hS
    go_simp
    refine (refCopy_any V.rn V.rd l3 l4).mono ?_
    rintro e wa ⟨kk, x3, y3, x4, y4, rfl, o1, o2⟩
    go_simp
    refine hK.out _ _ (hS.trans (kk.mono hS.size)) (fun _ => ?_)
    exact fr_210 X Y l1 l2 l3 l4 hQ (hS.trans (kk.mono hS.size)) ((r1.below kk).mono kk.size) ((r2.below kk).mono kk.size) o1.rd o2.rd (P7.below kk) h7
  refine AllReadyH.cons (o := { dst := some 8, op := Op.alloc 24, type := 0, pos := "law.go:44", after := #[], guard := none }) rfl (fun K hK => ?_) ?_
  · have kk := below_alloc W (.cells #[.bool false, .slice none 0 0, .slice none 0 0] 24)
    go_simp
    refine hK.out _ _ (hS.alloc hS.size _) (fun _ => ?_)
    exact fr_111 X Y l1 l2 l3 l4 hQ (hS.alloc hS.size _) ((r1.below kk).mono kk.size) ((r2.below kk).mono kk.size) (P7.below kk) h7 (rvar_new W) hS.size (fun h => by have := P7.lt; omega)
  exact AllReadyH.nil

set_option maxRecDepth 100000 in
set_option maxHeartbeats 16000000 in
theorem fr_101 (X : NVar v kx bx a1 xn c1 a2 xd c2) (Y : NVar v ky cy a3 yn c3 a4 yd c4) (l1 : xn.length * 4 ≤ 140737488355328) (l2 : xd.length * 4 ≤ 140737488355328) (l3 : yn.length * 4 ≤ 140737488355328) (l4 : yd.length * 4 ≤ 140737488355328) (hQ : (∀ (k7 k8 : Nat) (x1 : Option Addr) (y1 : Nat) (x2 : Option Addr) (y2 : Nat) (x3 : Option Addr) (y3 : Nat) (x4 : Option Addr) (y4 : Nat) (W : World), KVar W k7 bx x1 xn y1 x2 xd y2 → KVar W k8 cy x3 yn y3 x4 yd y4 → Below v.heap.size v W → Q .normal { tmps := (t0 :: t1 :: t2 :: (.pointer (some ⟨kx, 0, none⟩)) :: (.pointer (some ⟨ky, 0, none⟩)) :: t5 :: t6 :: (.pointer (some ⟨k7, 0, none⟩)) :: (.pointer (some ⟨k8, 0, none⟩)) :: t9 :: t10 :: t11 :: t12 :: (.agg #[.bool bx, .slice a1 xn.length c1, .slice a2 xd.length c2]) :: (.agg #[.bool bx, .slice x1 xn.length y1, .slice x2 xd.length y2]) :: (.agg #[.bool cy, .slice a3 yn.length c3, .slice a4 yd.length c4]) :: (.agg #[.bool cy, .slice x3 yn.length y3, .slice x4 yd.length y4]) :: r).toArray, defers := ds } W)) (hS : Below v.heap.size v W) (r1 : Rd W.heap.size W (.slice x1 xn.length y1) xn) (r2 : Rd W.heap.size W (.slice x2 xd.length y2) xd) (P8 : RVar W k8) (h8 : v.heap.size ≤ k8) :
    wpAnyH Tryz.prog .any fops Q (fun W => Below v.heap.size v W) 4 #[true, true, true, false, false, true, false, false] { tmps := (t0 :: t1 :: t2 :: (.pointer (some ⟨kx, 0, none⟩)) :: (.pointer (some ⟨ky, 0, none⟩)) :: t5 :: t6 :: t7 :: (.pointer (some ⟨k8, 0, none⟩)) :: t9 :: t10 :: t11 :: t12 :: (.agg #[.bool bx, .slice a1 xn.length c1, .slice a2 xd.length c2]) :: (.agg #[.bool bx, .slice x1 xn.length y1, .slice x2 xd.length y2]) :: (.agg #[.bool cy, .slice a3 yn.length c3, .slice a4 yd.length c4]) :: t16 :: r).toArray, defers := ds } W := by
  refine wpAnyH_ready (rs := [3, 4]) (by kernel_rfl) (by simp) ?_
  refine AllReadyH.cons (o := { dst := some 16, op := Op.call { callee := Callee.value (Operand.func 4), args := #[Operand.tmp 15], argTypes := #[24] }, type := 24, pos := "law.go:44", after := #[{ on := 2, ground := Ground.data }, { on := 1, ground := Ground.chain }], guard := none }) rfl (fun K hK => ?_) ?_
  · have V := Y.below hS
    go_simp
    refine (refCopy_any V.rn V.rd l3 l4).mono ?_
    rintro e wa ⟨kk, x3, y3, x4, y4, rfl, o1, o2⟩
    go_simp
    refine hK.out _ _ (hS.trans (kk.mono hS.size)) (fun _ => ?_)
    exact fr_201 X Y l1 l2 l3 l4 hQ (hS.trans (kk.mono hS.size)) ((r1.below kk).mono kk.size) ((r2.below kk).mono kk.size) o1.rd o2.rd (P8.below kk) h8
  refine AllReadyH.cons (o := { dst := some 7, op := Op.alloc 24, type := 0, pos := "law.go:44", after := #[], guard := none }) rfl (fun K hK => ?_) ?_
  · have kk := below_alloc W (.cells #[.bool false, .slice none 0 0, .slice none 0 0] 24)
    go_simp
    refine hK.out _ _ (hS.alloc hS.size _) (fun _ => ?_)
    exact fr_111 X Y l1 l2 l3 l4 hQ (hS.alloc hS.size _) ((r1.below kk).mono kk.size) ((r2.below kk).mono kk.size) (rvar_new W) hS.size (P8.below kk) h8 (fun h => by have := P8.lt; omega)
  exact AllReadyH.nil

set_option maxRecDepth 100000 in
set_option maxHeartbeats 16000000 in
theorem fr_100 (X : NVar v kx bx a1 xn c1 a2 xd c2) (Y : NVar v ky cy a3 yn c3 a4 yd c4) (l1 : xn.length * 4 ≤ 140737488355328) (l2 : xd.length * 4 ≤ 140737488355328) (l3 : yn.length * 4 ≤ 140737488355328) (l4 : yd.length * 4 ≤ 140737488355328) (hQ : (∀ (k7 k8 : Nat) (x1 : Option Addr) (y1 : Nat) (x2 : Option Addr) (y2 : Nat) (x3 : Option Addr) (y3 : Nat) (x4 : Option Addr) (y4 : Nat) (W : World), KVar W k7 bx x1 xn y1 x2 xd y2 → KVar W k8 cy x3 yn y3 x4 yd y4 → Below v.heap.size v W → Q .normal { tmps := (t0 :: t1 :: t2 :: (.pointer (some ⟨kx, 0, none⟩)) :: (.pointer (some ⟨ky, 0, none⟩)) :: t5 :: t6 :: (.pointer (some ⟨k7, 0, none⟩)) :: (.pointer (some ⟨k8, 0, none⟩)) :: t9 :: t10 :: t11 :: t12 :: (.agg #[.bool bx, .slice a1 xn.length c1, .slice a2 xd.length c2]) :: (.agg #[.bool bx, .slice x1 xn.length y1, .slice x2 xd.length y2]) :: (.agg #[.bool cy, .slice a3 yn.length c3, .slice a4 yd.length c4]) :: (.agg #[.bool cy, .slice x3 yn.length y3, .slice x4 yd.length y4]) :: r).toArray, defers := ds } W)) (hS : Below v.heap.size v W) (r1 : Rd W.heap.size W (.slice x1 xn.length y1) xn) (r2 : Rd W.heap.size W (.slice x2 xd.length y2) xd) :
    wpAnyH Tryz.prog .any fops Q (fun W => Below v.heap.size v W) 5 #[true, true, true, false, false, false, false, false] { tmps := (t0 :: t1 :: t2 :: (.pointer (some ⟨kx, 0, none⟩)) :: (.pointer (some ⟨ky, 0, none⟩)) :: t5 :: t6 :: t7 :: t8 :: t9 :: t10 :: t11 :: t12 :: (.agg #[.bool bx, .slice a1 xn.length c1, .slice a2 xd.length c2]) :: (.agg #[.bool bx, .slice x1 xn.length y1, .slice x2 xd.length y2]) :: (.agg #[.bool cy, .slice a3 yn.length c3, .slice a4 yd.length c4]) :: t16 :: r).toArray, defers := ds } W := by
  refine wpAnyH_ready (rs := [3, 4, 5]) (by kernel_rfl) (by simp) ?_
  refine AllReadyH.cons (o := { dst := some 16, op := Op.call { callee := Callee.value (Operand.func 4), args := #[Operand.tmp 15], argTypes := #[24] }, type := 24, pos := "law.go:44", after := #[{ on := 2, ground := Ground.data }, { on := 1, ground := Ground.chain }], guard := none }) rfl (fun K hK => ?_) ?_
  · have V := Y.below hS
    go_simp
    refine (refCopy_any V.rn V.rd l3 l4).mono ?_
    rintro e wa ⟨kk, x3, y3, x4, y4, rfl, o1, o2⟩
    go_simp
    refine hK.out _ _ (hS.trans (kk.mono hS.size)) (fun _ => ?_)
    exact fr_200 X Y l1 l2 l3 l4 hQ (hS.trans (kk.mono hS.size)) ((r1.below kk).mono kk.size) ((r2.below kk).mono kk.size) o1.rd o2.rd
  refine AllReadyH.cons (o := { dst := some 7, op := Op.alloc 24, type := 0, pos := "law.go:44", after := #[], guard := none }) rfl (fun K hK => ?_) ?_
  · have kk := below_alloc W (.cells #[.bool false, .slice none 0 0, .slice none 0 0] 24)
    go_simp
    refine hK.out _ _ (hS.alloc hS.size _) (fun _ => ?_)
    exact fr_110 X Y l1 l2 l3 l4 hQ (hS.alloc hS.size _) ((r1.below kk).mono kk.size) ((r2.below kk).mono kk.size) (rvar_new W) hS.size
  refine AllReadyH.cons (o := { dst := some 8, op := Op.alloc 24, type := 0, pos := "law.go:44", after := #[], guard := none }) rfl (fun K hK => ?_) ?_
  · have kk := below_alloc W (.cells #[.bool false, .slice none 0 0, .slice none 0 0] 24)
    go_simp
    refine hK.out _ _ (hS.alloc hS.size _) (fun _ => ?_)
    exact fr_101 X Y l1 l2 l3 l4 hQ (hS.alloc hS.size _) ((r1.below kk).mono kk.size) ((r2.below kk).mono kk.size) (rvar_new W) hS.size
  exact AllReadyH.nil

set_option maxRecDepth 100000 in
set_option maxHeartbeats 16000000 in
theorem fr_011 (X : NVar v kx bx a1 xn c1 a2 xd c2) (Y : NVar v ky cy a3 yn c3 a4 yd c4) (l1 : xn.length * 4 ≤ 140737488355328) (l2 : xd.length * 4 ≤ 140737488355328) (l3 : yn.length * 4 ≤ 140737488355328) (l4 : yd.length * 4 ≤ 140737488355328) (hQ : (∀ (k7 k8 : Nat) (x1 : Option Addr) (y1 : Nat) (x2 : Option Addr) (y2 : Nat) (x3 : Option Addr) (y3 : Nat) (x4 : Option Addr) (y4 : Nat) (W : World), KVar W k7 bx x1 xn y1 x2 xd y2 → KVar W k8 cy x3 yn y3 x4 yd y4 → Below v.heap.size v W → Q .normal { tmps := (t0 :: t1 :: t2 :: (.pointer (some ⟨kx, 0, none⟩)) :: (.pointer (some ⟨ky, 0, none⟩)) :: t5 :: t6 :: (.pointer (some ⟨k7, 0, none⟩)) :: (.pointer (some ⟨k8, 0, none⟩)) :: t9 :: t10 :: t11 :: t12 :: (.agg #[.bool bx, .slice a1 xn.length c1, .slice a2 xd.length c2]) :: (.agg #[.bool bx, .slice x1 xn.length y1, .slice x2 xd.length y2]) :: (.agg #[.bool cy, .slice a3 yn.length c3, .slice a4 yd.length c4]) :: (.agg #[.bool cy, .slice x3 yn.length y3, .slice x4 yd.length y4]) :: r).toArray, defers := ds } W)) (hS : Below v.heap.size v W) (P7 : RVar W k7) (h7 : v.heap.size ≤ k7) (P8 : RVar W k8) (h8 : v.heap.size ≤ k8) (hne : k7 ≠ k8) :
    wpAnyH Tryz.prog .any fops Q (fun W => Below v.heap.size v W) 4 #[true, false, true, false, true, true, false, false] { tmps := (t0 :: t1 :: t2 :: (.pointer (some ⟨kx, 0, none⟩)) :: (.pointer (some ⟨ky, 0, none⟩)) :: t5 :: t6 :: (.pointer (some ⟨k7, 0, none⟩)) :: (.pointer (some ⟨k8, 0, none⟩)) :: t9 :: t10 :: t11 :: t12 :: (.agg #[.bool bx, .slice a1 xn.length c1, .slice a2 xd.length c2]) :: t14 :: (.agg #[.bool cy, .slice a3 yn.length c3, .slice a4 yd.length c4]) :: t16 :: r).toArray, defers := ds } W := by
  refine wpAnyH_ready (rs := [1]) (by kernel_rfl) (by simp) ?_
  refine AllReadyH.cons (o := { dst := some 14, op := Op.call { callee := Callee.value (Operand.func 4), args := #[Operand.tmp 13], argTypes := #[24] }, type := 24, pos := "law.go:44", after := #[{ on := 0, ground := Ground.data }], guard := none }) rfl (fun K hK => ?_) ?_
  · have V := X.below hS
    go_simp
    refine (refCopy_any V.rn V.rd l1 l2).mono ?_
    rintro e wa ⟨kk, x1, y1, x2, y2, rfl, o1, o2⟩
    go_simp
    refine hK.out _ _ (hS.trans (kk.mono hS.size)) (fun _ => ?_)
    exact fr_111 X Y l1 l2 l3 l4 hQ (hS.trans (kk.mono hS.size)) o1.rd o2.rd (P7.below kk) h7 (P8.below kk) h8 hne
  exact AllReadyH.nil

set_option maxRecDepth 100000 in
set_option maxHeartbeats 16000000 in
theorem fr_010 (X : NVar v kx bx a1 xn c1 a2 xd c2) (Y : NVar v ky cy a3 yn c3 a4 yd c4) (l1 : xn.length * 4 ≤ 140737488355328) (l2 : xd.length * 4 ≤ 140737488355328) (l3 : yn.length * 4 ≤ 140737488355328) (l4 : yd.length * 4 ≤ 140737488355328) (hQ : (∀ (k7 k8 : Nat) (x1 : Option Addr) (y1 : Nat) (x2 : Option Addr) (y2 : Nat) (x3 : Option Addr) (y3 : Nat) (x4 : Option Addr) (y4 : Nat) (W : World), KVar W k7 bx x1 xn y1 x2 xd y2 → KVar W k8 cy x3 yn y3 x4 yd y4 → Below v.heap.size v W → Q .normal { tmps := (t0 :: t1 :: t2 :: (.pointer (some ⟨kx, 0, none⟩)) :: (.pointer (some ⟨ky, 0, none⟩)) :: t5 :: t6 :: (.pointer (some ⟨k7, 0, none⟩)) :: (.pointer (some ⟨k8, 0, none⟩)) :: t9 :: t10 :: t11 :: t12 :: (.agg #[.bool bx, .slice a1 xn.length c1, .slice a2 xd.length c2]) :: (.agg #[.bool bx, .slice x1 xn.length y1, .slice x2 xd.length y2]) :: (.agg #[.bool cy, .slice a3 yn.length c3, .slice a4 yd.length c4]) :: (.agg #[.bool cy, .slice x3 yn.length y3, .slice x4 yd.length y4]) :: r).toArray, defers := ds } W)) (hS : Below v.heap.size v W) (P7 : RVar W k7) (h7 : v.heap.size ≤ k7) :
    wpAnyH Tryz.prog .any fops Q (fun W => Below v.heap.size v W) 5 #[true, false, true, false, true, false, false, false] { tmps := (t0 :: t1 :: t2 :: (.pointer (some ⟨kx, 0, none⟩)) :: (.pointer (some ⟨ky, 0, none⟩)) :: t5 :: t6 :: (.pointer (some ⟨k7, 0, none⟩)) :: t8 :: t9 :: t10 :: t11 :: t12 :: (.agg #[.bool bx, .slice a1 xn.length c1, .slice a2 xd.length c2]) :: t14 :: (.agg #[.bool cy, .slice a3 yn.length c3, .slice a4 yd.length c4]) :: t16 :: r).toArray, defers := ds } W := by
  refine wpAnyH_ready (rs := [1, 5]) (by kernel_rfl) (by simp) ?_
  refine AllReadyH.cons (o := { dst := some 14, op := Op.call { callee := Callee.value (Operand.func 4), args := #[Operand.tmp 13], argTypes := #[24] }, type := 24, pos := "law.go:44", after := #[{ on := 0, ground := Ground.data }], guard := none }) rfl (fun K hK => ?_) ?_
  · have V := X.below hS
    go_simp
    refine (refCopy_any V.rn V.rd l1 l2).mono ?_
    rintro e wa ⟨kk, x1, y1, x2, y2, rfl, o1, o2⟩
    go_simp
    refine hK.out _ _ (hS.trans (kk.mono hS.size)) (fun _ => ?_)
    exact fr_110 X Y l1 l2 l3 l4 hQ (hS.trans (kk.mono hS.size)) o1.rd o2.rd (P7.below kk) h7
  refine AllReadyH.cons (o := { dst := some 8, op := Op.alloc 24, type := 0, pos := "law.go:44", after := #[], guard := none }) rfl (fun K hK => ?_) ?_
  · have kk := below_alloc W (.cells #[.bool false, .slice none 0 0, .slice none 0 0] 24)
    go_simp
    refine hK.out _ _ (hS.alloc hS.size _) (fun _ => ?_)
    exact fr_011 X Y l1 l2 l3 l4 hQ (hS.alloc hS.size _) (P7.below kk) h7 (rvar_new W) hS.size (fun h => by have := P7.lt; omega)
  exact AllReadyH.nil

set_option maxRecDepth 100000 in
set_option maxHeartbeats 16000000 in
theorem fr_001 (X : NVar v kx bx a1 xn c1 a2 xd c2) (Y : NVar v ky cy a3 yn c3 a4 yd c4) (l1 : xn.length * 4 ≤ 140737488355328) (l2 : xd.length * 4 ≤ 140737488355328) (l3 : yn.length * 4 ≤ 140737488355328) (l4 : yd.length * 4 ≤ 140737488355328) (hQ : (∀ (k7 k8 : Nat) (x1 : Option Addr) (y1 : Nat) (x2 : Option Addr) (y2 : Nat) (x3 : Option Addr) (y3 : Nat) (x4 : Option Addr) (y4 : Nat) (W : World), KVar W k7 bx x1 xn y1 x2 xd y2 → KVar W k8 cy x3 yn y3 x4 yd y4 → Below v.heap.size v W → Q .normal { tmps := (t0 :: t1 :: t2 :: (.pointer (some ⟨kx, 0, none⟩)) :: (.pointer (some ⟨ky, 0, none⟩)) :: t5 :: t6 :: (.pointer (some ⟨k7, 0, none⟩)) :: (.pointer (some ⟨k8, 0, none⟩)) :: t9 :: t10 :: t11 :: t12 :: (.agg #[.bool bx, .slice a1 xn.length c1, .slice a2 xd.length c2]) :: (.agg #[.bool bx, .slice x1 xn.length y1, .slice x2 xd.length y2]) :: (.agg #[.bool cy, .slice a3 yn.length c3, .slice a4 yd.length c4]) :: (.agg #[.bool cy, .slice x3 yn.length y3, .slice x4 yd.length y4]) :: r).toArray, defers := ds } W)) (hS : Below v.heap.size v W) (P8 : RVar W k8) (h8 : v.heap.size ≤ k8) :
    wpAnyH Tryz.prog .any fops Q (fun W => Below v.heap.size v W) 5 #[true, false, true, false, false, true, false, false] { tmps := (t0 :: t1 :: t2 :: (.pointer (some ⟨kx, 0, none⟩)) :: (.pointer (some ⟨ky, 0, none⟩)) :: t5 :: t6 :: t7 :: (.pointer (some ⟨k8, 0, none⟩)) :: t9 :: t10 :: t11 :: t12 :: (.agg #[.bool bx, .slice a1 xn.length c1, .slice a2 xd.length c2]) :: t14 :: (.agg #[.bool cy, .slice a3 yn.length c3, .slice a4 yd.length c4]) :: t16 :: r).toArray, defers := ds } W := by
  refine wpAnyH_ready (rs := [1, 4]) (by kernel_rfl) (by simp) ?_
  refine AllReadyH.cons (o := { dst := some 14, op := Op.call { callee := Callee.value (Operand.func 4), args := #[Operand.tmp 13], argTypes := #[24] }, type := 24, pos := "law.go:44", after := #[{ on := 0, ground := Ground.data }], guard := none }) rfl (fun K hK => ?_) ?_
  · have V := X.below hS
    go_simp
    refine (refCopy_any V.rn V.rd l1 l2).mono ?_
    rintro e wa ⟨kk, x1, y1, x2, y2, rfl, o1, o2⟩
    go_simp
    refine hK.out _ _ (hS.trans (kk.mono hS.size)) (fun _ => ?_)
    exact fr_101 X Y l1 l2 l3 l4 hQ (hS.trans (kk.mono hS.size)) o1.rd o2.rd (P8.below kk) h8
  refine AllReadyH.cons (o := { dst := some 7, op := Op.alloc 24, type := 0, pos := "law.go:44", after := #[], guard := none }) rfl (fun K hK => ?_) ?_
  · have kk := below_alloc W (.cells #[.bool false, .slice none 0 0, .slice none 0 0] 24)
    go_simp
    refine hK.out _ _ (hS.alloc hS.size _) (fun _ => ?_)
    exact fr_011 X Y l1 l2 l3 l4 hQ (hS.alloc hS.size _) (rvar_new W) hS.size (P8.below kk) h8 (fun h => by have := P8.lt; omega)
  exact AllReadyH.nil

set_option maxRecDepth 100000 in
set_option maxHeartbeats 16000000 in
theorem fr_000 (X : NVar v kx bx a1 xn c1 a2 xd c2) (Y : NVar v ky cy a3 yn c3 a4 yd c4) (l1 : xn.length * 4 ≤ 140737488355328) (l2 : xd.length * 4 ≤ 140737488355328) (l3 : yn.length * 4 ≤ 140737488355328) (l4 : yd.length * 4 ≤ 140737488355328) (hQ : (∀ (k7 k8 : Nat) (x1 : Option Addr) (y1 : Nat) (x2 : Option Addr) (y2 : Nat) (x3 : Option Addr) (y3 : Nat) (x4 : Option Addr) (y4 : Nat) (W : World), KVar W k7 bx x1 xn y1 x2 xd y2 → KVar W k8 cy x3 yn y3 x4 yd y4 → Below v.heap.size v W → Q .normal { tmps := (t0 :: t1 :: t2 :: (.pointer (some ⟨kx, 0, none⟩)) :: (.pointer (some ⟨ky, 0, none⟩)) :: t5 :: t6 :: (.pointer (some ⟨k7, 0, none⟩)) :: (.pointer (some ⟨k8, 0, none⟩)) :: t9 :: t10 :: t11 :: t12 :: (.agg #[.bool bx, .slice a1 xn.length c1, .slice a2 xd.length c2]) :: (.agg #[.bool bx, .slice x1 xn.length y1, .slice x2 xd.length y2]) :: (.agg #[.bool cy, .slice a3 yn.length c3, .slice a4 yd.length c4]) :: (.agg #[.bool cy, .slice x3 yn.length y3, .slice x4 yd.length y4]) :: r).toArray, defers := ds } W)) (hS : Below v.heap.size v W) :
    wpAnyH Tryz.prog .any fops Q (fun W => Below v.heap.size v W) 6 #[true, false, true, false, false, false, false, false] { tmps := (t0 :: t1 :: t2 :: (.pointer (some ⟨kx, 0, none⟩)) :: (.pointer (some ⟨ky, 0, none⟩)) :: t5 :: t6 :: t7 :: t8 :: t9 :: t10 :: t11 :: t12 :: (.agg #[.bool bx, .slice a1 xn.length c1, .slice a2 xd.length c2]) :: t14 :: (.agg #[.bool cy, .slice a3 yn.length c3, .slice a4 yd.length c4]) :: t16 :: r).toArray, defers := ds } W := by
  refine wpAnyH_ready (rs := [1, 4, 5]) (by kernel_rfl) (by simp) ?_
  refine AllReadyH.cons (o := { dst := some 14, op := Op.call { callee := Callee.value (Operand.func 4), args := #[Operand.tmp 13], argTypes := #[24] }, type := 24, pos := "law.go:44", after := #[{ on := 0, ground := Ground.data }], guard := none }) rfl (fun K hK => ?_) ?_
  · have V := X.below hS
    go_simp
    refine (refCopy_any V.rn V.rd l1 l2).mono ?_
    rintro e wa ⟨kk, x1, y1, x2, y2, rfl, o1, o2⟩
    go_simp
    refine hK.out _ _ (hS.trans (kk.mono hS.size)) (fun _ => ?_)
    exact fr_100 X Y l1 l2 l3 l4 hQ (hS.trans (kk.mono hS.size)) o1.rd o2.rd
  refine AllReadyH.cons (o := { dst := some 7, op := Op.alloc 24, type := 0, pos := "law.go:44", after := #[], guard := none }) rfl (fun K hK => ?_) ?_
  · have kk := below_alloc W (.cells #[.bool false, .slice none 0 0, .slice none 0 0] 24)
    go_simp
    refine hK.out _ _ (hS.alloc hS.size _) (fun _ => ?_)
    exact fr_010 X Y l1 l2 l3 l4 hQ (hS.alloc hS.size _) (rvar_new W) hS.size
  refine AllReadyH.cons (o := { dst := some 8, op := Op.alloc 24, type := 0, pos := "law.go:44", after := #[], guard := none }) rfl (fun K hK => ?_) ?_
  · have kk := below_alloc W (.cells #[.bool false, .slice none 0 0, .slice none 0 0] 24)
    go_simp
    refine hK.out _ _ (hS.alloc hS.size _) (fun _ => ?_)
    exact fr_001 X Y l1 l2 l3 l4 hQ (hS.alloc hS.size _) (rvar_new W) hS.size
  exact AllReadyH.nil

set_option maxRecDepth 100000 in
set_option maxHeartbeats 16000000 in
theorem reck_first (X : NVar v kx bx a1 xn c1 a2 xd c2) (Y : NVar v ky cy a3 yn c3 a4 yd c4) (l1 : xn.length * 4 ≤ 140737488355328) (l2 : xd.length * 4 ≤ 140737488355328) (l3 : yn.length * 4 ≤ 140737488355328) (l4 : yd.length * 4 ≤ 140737488355328) (hQ : (∀ (k7 k8 : Nat) (x1 : Option Addr) (y1 : Nat) (x2 : Option Addr) (y2 : Nat) (x3 : Option Addr) (y3 : Nat) (x4 : Option Addr) (y4 : Nat) (W : World), KVar W k7 bx x1 xn y1 x2 xd y2 → KVar W k8 cy x3 yn y3 x4 yd y4 → Below v.heap.size v W → Q .normal { tmps := (t0 :: t1 :: t2 :: (.pointer (some ⟨kx, 0, none⟩)) :: (.pointer (some ⟨ky, 0, none⟩)) :: t5 :: t6 :: (.pointer (some ⟨k7, 0, none⟩)) :: (.pointer (some ⟨k8, 0, none⟩)) :: t9 :: t10 :: t11 :: t12 :: (.agg #[.bool bx, .slice a1 xn.length c1, .slice a2 xd.length c2]) :: (.agg #[.bool bx, .slice x1 xn.length y1, .slice x2 xd.length y2]) :: (.agg #[.bool cy, .slice a3 yn.length c3, .slice a4 yd.length c4]) :: (.agg #[.bool cy, .slice x3 yn.length y3, .slice x4 yd.length y4]) :: r).toArray, defers := ds } W)) (hP : ∀ c a d u w, Q (.panic c) (a.put d u) w → Q (.panic c) a w) :
    (Code.region 1 fops true).wp Tryz.prog Q { tmps := (t0 :: t1 :: t2 :: (.pointer (some ⟨kx, 0, none⟩)) :: (.pointer (some ⟨ky, 0, none⟩)) :: t5 :: t6 :: t7 :: t8 :: t9 :: t10 :: t11 :: t12 :: t13 :: t14 :: t15 :: t16 :: r).toArray, defers := ds } v := by
  have d0 : Below v.heap.size v v.drew := ⟨rfl, rfl, rfl, Nat.le_refl _, fun _ _ => rfl⟩
  refine wp_region_held_drew (S := fun W => Below v.heap.size v W) (by kernel_rfl) d0 (fun hS => ?_)
  refine wpAnyH_take (i := 0) (oi := { dst := some 13, op := Op.load 24 (Operand.tmp 3), type := 24, pos := "law.go:44", after := #[], guard := none }) (v := .agg #[.bool bx, .slice a1 xn.length c1, .slice a2 xd.length c2]) rfl (by kernel_rfl) (by kernel_rfl) (by kernel_rfl) (fun _ _ _ h => hP _ _ _ _ _ h) (Or.inl ⟨by rfl, ?_⟩) d0 ?_
  · intro w hw
    obtain ⟨X0, X1, X2⟩ := (X.below hw).cells
    go_simp
  simp only [Act.put, List.setIfInBounds_toArray, List.set_cons_zero, List.set_cons_succ]
  refine wpAnyH_take (i := 2) (oi := { dst := some 15, op := Op.load 24 (Operand.tmp 4), type := 24, pos := "law.go:44", after := #[], guard := none }) (v := .agg #[.bool cy, .slice a3 yn.length c3, .slice a4 yd.length c4]) rfl (by kernel_rfl) (by kernel_rfl) (by kernel_rfl) (fun _ _ _ h => hP _ _ _ _ _ h) (Or.inl ⟨by rfl, ?_⟩) d0 ?_
  · intro w hw
    obtain ⟨Y0, Y1, Y2⟩ := (Y.below hw).cells
    go_simp
  simp only [Act.put, List.setIfInBounds_toArray, List.set_cons_zero, List.set_cons_succ]
  exact fr_000 X Y l1 l2 l3 l4 hQ d0
end
end Go.Proofs.YtonjbpnpknpbeaaGreatDoor

/- The walk over RatReckons: sums, differences, products, quotients. -/
namespace Go.Proofs.YtonjbpnpknpbeaaGreatDoor
set_option linter.unusedVariables false
set_option linter.unusedSimpArgs false
open Go.RowKit

set_option maxRecDepth 100000 in
set_option maxHeartbeats 64000000 in
theorem ratReckons_walk {w : World} {bx cy dz : Bool} {a1 a2 a3 a4 a5 a6 : Option Addr} {c1 c2 c3 c4 c5 c6 : Nat} {xn xd yn yd zn zd : List Int} (h1 : Rd w.heap.size w (.slice a1 xn.length c1) xn) (h2 : Rd w.heap.size w (.slice a2 xd.length c2) xd) (h3 : Rd w.heap.size w (.slice a3 yn.length c3) yn) (h4 : Rd w.heap.size w (.slice a4 yd.length c4) yd) (h5 : Rd w.heap.size w (.slice a5 zn.length c5) zn) (h6 : Rd w.heap.size w (.slice a6 zd.length c6) zd) (l1 : xn.length * 4 ≤ 140737488355328) (l2 : xd.length * 4 ≤ 140737488355328) (l3 : yn.length * 4 ≤ 140737488355328) (l4 : yd.length * 4 ≤ 140737488355328) (htab : Lib.TabIs Tryz.prog w "internal/strconv.uint64pow10" .u64 Lib.pow10Tab) :
    Calls Tryz.prog 3 #[.agg #[.bool bx, .slice a1 xn.length c1, .slice a2 xd.length c2], .agg #[.bool cy, .slice a3 yn.length c3, .slice a4 yd.length c4], .agg #[.bool dz, .slice a5 zn.length c5, .slice a6 zd.length c6]] w fun e w' => e = .returned (.bool true) ∧ Below w.heap.size w w' := by
  obtain ⟨X, Y, Z, g⟩ := nvar_in3 (bx := bx) (cy := cy) (dz := dz) h1 h2 h3 h4 h5 h6
  clear h1 h2 h3 h4 h5 h6
  go_enter Tryz.func3, Tryz.ntmps3
  go_upto_region 1 with fail
  generalize hA : (((w.alloc (.cells #[.bool bx, .slice a1 xn.length c1, .slice a2 xd.length c2] 24)).alloc (.cells #[.bool cy, .slice a3 yn.length c3, .slice a4 yd.length c4] 24)).alloc (.cells #[.bool dz, .slice a5 zn.length c5, .slice a6 zd.length c6] 24)) = v at *
  clear hA
  go_cut [7, 8] from 13 to 16 (fun p q wx => ∃ (k7 k8 : Nat) (x1 : Option Addr) (y1 : Nat) (x2 : Option Addr) (y2 : Nat) (x3 : Option Addr) (y3 : Nat) (x4 : Option Addr) (y4 : Nat), p = .pointer (some ⟨k7, 0, none⟩) ∧ q = .pointer (some ⟨k8, 0, none⟩) ∧ KVar wx k7 bx x1 xn y1 x2 xd y2 ∧ KVar wx k8 cy x3 yn y3 x4 yd y4 ∧ Below v.heap.size v wx)
  case first =>
    refine wp_region_noPanic (reck_first X Y l1 l2 l3 l4 ?_ (fun _ _ _ _ _ h => h))
    intro k7 k8 x1 y1 x2 y2 x3 y3 x4 y4 W A B tb
    refine NoPanic.normal ?_
    go_wp2_with fail
    go_meet
    exact ⟨k7, k8, x1, y1, x2, y2, x3, y3, x4, y4, rfl, rfl, A, B, tb⟩
  case rest =>
  obtain ⟨k7, k8, x1, y1, x2, y2, x3, y3, x4, y4, rfl, rfl, A, B, tc⟩ := hcut
  replace X := X.below tc
  replace Y := Y.below tc
  replace Z := Z.below tc
  replace g := g.trans (tc.mono g.size)
  clear tc l1 l2 l3 l4
  have hD : (RightP bx xn xd ∧ RightP cy yn yd ∧ RightP dz zn zd) → 0 < val xd ∧ 0 < val yd ∧ 0 < val zd := fun h => ⟨(right_pos h.1).1, (right_pos h.2.1).1, (right_pos h.2.2).1⟩
  have hD2 : RightP bx xn xd ∧ RightP cy yn yd → 0 < val xd * val yd := fun h => Int.mul_pos (right_pos h.1).1 (right_pos h.2).1
  obtain ⟨A0, A1, A2⟩ := A.cells
  obtain ⟨B0, B1, B2⟩ := B.cells
  obtain ⟨Z0, Z1, Z2⟩ := Z.cells
  have kl1 := below_alloc wc (.cells #[.bool bx, .slice x1 xn.length y1, .slice x2 xd.length y2, .bool cy, .slice x3 yn.length y3, .slice x4 yd.length y4, .bool dz, .slice a5 zn.length c5, .slice a6 zd.length c6] 24)
  have T3 := three_new wc (.bool bx) (.slice x1 xn.length y1) (.slice x2 xd.length y2) (.bool cy) (.slice x3 yn.length y3) (.slice x4 yd.length y4) (.bool dz) (.slice a5 zn.length c5) (.slice a6 zd.length c6) 24
  go_wp2_with fail
  clear A0 A1 A2 B0 B1 B2 Z0 Z1 Z2
  replace X := X.below kl1
  replace Y := Y.below kl1
  replace Z := Z.below kl1
  replace A := A.below kl1
  replace B := B.below kl1
  replace g := g.trans (kl1.mono g.size)
  clear kl1
  generalize hA : (wc.alloc (.cells #[.bool bx, .slice x1 xn.length y1, .slice x2 xd.length y2, .bool cy, .slice x3 yn.length y3, .slice x4 yd.length y4, .bool dz, .slice a5 zn.length c5, .slice a6 zd.length c6] 24)) = v2 at *
  clear hA
  refine (add3 T3 A.rn A.rd B.rn B.rd Z.rn Z.rd).mono ?_
  intro e w3 hm
  obtain ⟨b1, n1, d1, e1, HS1, k4, u1p, v1p, x1p, y1p, rfl, rn1p, rd1p⟩ := hm
  replace X := X.below k4
  replace Y := Y.below k4
  replace Z := Z.below k4
  replace A := A.below k4
  replace B := B.below k4
  replace g := g.trans (k4.mono g.size)
  clear k4
  clear T3
  have neXP : w.heap.size ≠ w3.heap.size := Nat.ne_of_lt X.lt
  have neYP : (w.heap.size + 1) ≠ w3.heap.size := Nat.ne_of_lt Y.lt
  have neZP : (w.heap.size + 1 + 1) ≠ w3.heap.size := Nat.ne_of_lt Z.lt
  have neAP : k7 ≠ w3.heap.size := Nat.ne_of_lt A.lt
  have neBP : k8 ≠ w3.heap.size := Nat.ne_of_lt B.lt
  have leP : w.heap.size ≤ w3.heap.size := g.size
  have ka5 := below_alloc w3 (.cells #[.bool b1, .slice u1p n1.length v1p, .slice x1p d1.length y1p] 24)
  have P := nvar_new (b := b1) rn1p rd1p
  replace X := X.below ka5
  replace Y := Y.below ka5
  replace Z := Z.below ka5
  replace A := A.below ka5
  replace B := B.below ka5
  replace g := g.trans (ka5.mono g.size)
  clear ka5
  obtain ⟨X0, X1, X2⟩ := X.cells
  obtain ⟨Y0, Y1, Y2⟩ := Y.cells
  obtain ⟨Z0, Z1, Z2⟩ := Z.cells
  have kl6 := below_alloc (w3.alloc (.cells #[.bool b1, .slice u1p n1.length v1p, .slice x1p d1.length y1p] 24)) (.cells #[.bool bx, .slice a1 xn.length c1, .slice a2 xd.length c2, .bool cy, .slice a3 yn.length c3, .slice a4 yd.length c4, .bool dz, .slice a5 zn.length c5, .slice a6 zd.length c6] 24)
  have T3 := three_new (w3.alloc (.cells #[.bool b1, .slice u1p n1.length v1p, .slice x1p d1.length y1p] 24)) (.bool bx) (.slice a1 xn.length c1) (.slice a2 xd.length c2) (.bool cy) (.slice a3 yn.length c3) (.slice a4 yd.length c4) (.bool dz) (.slice a5 zn.length c5) (.slice a6 zd.length c6) 24
  rw [World.size_alloc] at T3
  go_wp2_with fail
  clear X0 X1 X2 Y0 Y1 Y2 Z0 Z1 Z2
  replace X := X.below kl6
  replace Y := Y.below kl6
  replace Z := Z.below kl6
  replace A := A.below kl6
  replace B := B.below kl6
  replace P := P.below kl6
  replace g := g.trans (kl6.mono g.size)
  clear kl6
  generalize hA : ((w3.alloc (.cells #[.bool b1, .slice u1p n1.length v1p, .slice x1p d1.length y1p] 24)).alloc (.cells #[.bool bx, .slice a1 xn.length c1, .slice a2 xd.length c2, .bool cy, .slice a3 yn.length c3, .slice a4 yd.length c4, .bool dz, .slice a5 zn.length c5, .slice a6 zd.length c6] 24)) = v7 at *
  clear hA
  refine (refAdd3 T3 X.rn X.rd Y.rn Y.rd Z.rn Z.rd).mono ?_
  intro e w8 hm
  obtain ⟨k9, u1q, v1q, x1q, y1q, rfl, rn1q, rd1q⟩ := fold_same hD HS1 hm
  clear hm HS1
  replace X := X.below k9
  replace Y := Y.below k9
  replace Z := Z.below k9
  replace A := A.below k9
  replace B := B.below k9
  replace P := P.below k9
  replace g := g.trans (k9.mono g.size)
  clear k9
  clear T3
  have neXQ : w.heap.size ≠ w8.heap.size := Nat.ne_of_lt X.lt
  have neYQ : (w.heap.size + 1) ≠ w8.heap.size := Nat.ne_of_lt Y.lt
  have neZQ : (w.heap.size + 1 + 1) ≠ w8.heap.size := Nat.ne_of_lt Z.lt
  have neAQ : k7 ≠ w8.heap.size := Nat.ne_of_lt A.lt
  have neBQ : k8 ≠ w8.heap.size := Nat.ne_of_lt B.lt
  have nePQ : w3.heap.size ≠ w8.heap.size := Nat.ne_of_lt P.lt
  have leQ : w.heap.size ≤ w8.heap.size := g.size
  have ka10 := below_alloc w8 (.cells #[.bool b1, .slice u1q n1.length v1q, .slice x1q d1.length y1q] 24)
  have Q := nvar_new (b := b1) rn1q rd1q
  replace X := X.below ka10
  replace Y := Y.below ka10
  replace Z := Z.below ka10
  replace A := A.below ka10
  replace B := B.below ka10
  replace P := P.below ka10
  replace g := g.trans (ka10.mono g.size)
  clear ka10
  go_wp2_with fail
  generalize hA : (w8.alloc (.cells #[.bool b1, .slice u1q n1.length v1q, .slice x1q d1.length y1q] 24)) = v11 at *
  clear hA
  refine (live_rat _ (tabIs_below htab g)).mono ?_
  rintro e w12 ⟨rfl, k13⟩
  replace X := X.below k13
  replace Y := Y.below k13
  replace Z := Z.below k13
  replace A := A.below k13
  replace B := B.below k13
  replace P := P.below k13
  replace Q := Q.below k13
  replace g := g.trans (k13.mono g.size)
  clear k13
  obtain ⟨P0, P1, P2⟩ := P.cells
  obtain ⟨Q0, Q1, Q2⟩ := Q.cells
  go_wp2_with fail
  clear P0 P1 P2 Q0 Q1 Q2
  refine (same_ans e1 P.rn P.rd Q.rn Q.rd).mono ?_
  rintro e w14 ⟨rfl, k15⟩
  replace X := X.below k15
  replace Y := Y.below k15
  replace Z := Z.below k15
  replace A := A.below k15
  replace B := B.below k15
  replace P := P.below k15
  replace Q := Q.below k15
  replace g := g.trans (k15.mono g.size)
  clear k15
  obtain ⟨A0, A1, A2⟩ := A.cells
  obtain ⟨B0, B1, B2⟩ := B.cells
  obtain ⟨Z0, Z1, Z2⟩ := Z.cells
  have kl16 := below_alloc w14 (.cells #[.bool bx, .slice x1 xn.length y1, .slice x2 xd.length y2, .bool cy, .slice x3 yn.length y3, .slice x4 yd.length y4, .bool dz, .slice a5 zn.length c5, .slice a6 zd.length c6] 24)
  have T3 := three_new w14 (.bool bx) (.slice x1 xn.length y1) (.slice x2 xd.length y2) (.bool cy) (.slice x3 yn.length y3) (.slice x4 yd.length y4) (.bool dz) (.slice a5 zn.length c5) (.slice a6 zd.length c6) 24
  go_wp2_with fail
  clear A0 A1 A2 B0 B1 B2 Z0 Z1 Z2
  replace X := X.below kl16
  replace Y := Y.below kl16
  replace Z := Z.below kl16
  replace A := A.below kl16
  replace B := B.below kl16
  replace P := P.below kl16
  replace Q := Q.below kl16
  replace g := g.trans (kl16.mono g.size)
  clear kl16
  generalize hA : (w14.alloc (.cells #[.bool bx, .slice x1 xn.length y1, .slice x2 xd.length y2, .bool cy, .slice x3 yn.length y3, .slice x4 yd.length y4, .bool dz, .slice a5 zn.length c5, .slice a6 zd.length c6] 24)) = v17 at *
  clear hA
  refine (mul3 T3 A.rn A.rd B.rn B.rd Z.rn Z.rd).mono ?_
  intro e w18 hm
  obtain ⟨b2, n2, d2, e2, HS2, k19, u2p, v2p, x2p, y2p, rfl, rn2p, rd2p⟩ := hm
  replace X := X.below k19
  replace Y := Y.below k19
  replace Z := Z.below k19
  replace A := A.below k19
  replace B := B.below k19
  replace P := P.below k19
  replace Q := Q.below k19
  replace g := g.trans (k19.mono g.size)
  clear k19
  clear T3
  have q0 := P.box.c0
  have q1 := P.box.c1
  have q2 := P.box.c2
  have p0 := P.box.f0
  have p1 := P.box.f1
  have p2 := P.box.f2
  replace X := X.by' P neXP (.bool b2) (.slice u2p n2.length v2p) (.slice x2p d2.length y2p)
  replace Y := Y.by' P neYP (.bool b2) (.slice u2p n2.length v2p) (.slice x2p d2.length y2p)
  replace Z := Z.by' P neZP (.bool b2) (.slice u2p n2.length v2p) (.slice x2p d2.length y2p)
  replace A := A.by' P neAP (.bool b2) (.slice u2p n2.length v2p) (.slice x2p d2.length y2p)
  replace B := B.by' P neBP (.bool b2) (.slice u2p n2.length v2p) (.slice x2p d2.length y2p)
  replace Q := Q.by' P nePQ.symm (.bool b2) (.slice u2p n2.length v2p) (.slice x2p d2.length y2p)
  replace P := P.put (c := b2) rn2p rd2p
  replace g := Below.set3 g leP (.bool b2) (.slice u2p n2.length v2p) (.slice x2p d2.length y2p)
  clear rn2p rd2p
  obtain ⟨X0, X1, X2⟩ := X.cells
  obtain ⟨Y0, Y1, Y2⟩ := Y.cells
  obtain ⟨Z0, Z1, Z2⟩ := Z.cells
  have kl20 := below_alloc (((w18.setCell ⟨w3.heap.size, 0, none⟩ (.bool b2)).setCell ⟨w3.heap.size, 1, none⟩ (.slice u2p n2.length v2p)).setCell ⟨w3.heap.size, 2, none⟩ (.slice x2p d2.length y2p)) (.cells #[.bool bx, .slice a1 xn.length c1, .slice a2 xd.length c2, .bool cy, .slice a3 yn.length c3, .slice a4 yd.length c4, .bool dz, .slice a5 zn.length c5, .slice a6 zd.length c6] 24)
  have T3 := three_new (((w18.setCell ⟨w3.heap.size, 0, none⟩ (.bool b2)).setCell ⟨w3.heap.size, 1, none⟩ (.slice u2p n2.length v2p)).setCell ⟨w3.heap.size, 2, none⟩ (.slice x2p d2.length y2p)) (.bool bx) (.slice a1 xn.length c1) (.slice a2 xd.length c2) (.bool cy) (.slice a3 yn.length c3) (.slice a4 yd.length c4) (.bool dz) (.slice a5 zn.length c5) (.slice a6 zd.length c6) 24
  have szz : (((w18.setCell ⟨w3.heap.size, 0, none⟩ (.bool b2)).setCell ⟨w3.heap.size, 1, none⟩ (.slice u2p n2.length v2p)).setCell ⟨w3.heap.size, 2, none⟩ (.slice x2p d2.length y2p)).heap.size = w18.heap.size := by simp [World.setCell]
  rw [szz] at T3
  go_wp2_with fail
  clear X0 X1 X2 Y0 Y1 Y2 Z0 Z1 Z2
  clear q0 q1 q2 p0 p1 p2
  replace X := X.below kl20
  replace Y := Y.below kl20
  replace Z := Z.below kl20
  replace A := A.below kl20
  replace B := B.below kl20
  replace P := P.below kl20
  replace Q := Q.below kl20
  replace g := g.trans (kl20.mono g.size)
  clear kl20 szz
  generalize hA : ((((w18.setCell ⟨w3.heap.size, 0, none⟩ (.bool b2)).setCell ⟨w3.heap.size, 1, none⟩ (.slice u2p n2.length v2p)).setCell ⟨w3.heap.size, 2, none⟩ (.slice x2p d2.length y2p)).alloc (.cells #[.bool bx, .slice a1 xn.length c1, .slice a2 xd.length c2, .bool cy, .slice a3 yn.length c3, .slice a4 yd.length c4, .bool dz, .slice a5 zn.length c5, .slice a6 zd.length c6] 24)) = v21 at *
  clear hA
  refine (refMul3 T3 X.rn X.rd Y.rn Y.rd Z.rn Z.rd).mono ?_
  intro e w22 hm
  obtain ⟨k23, u2q, v2q, x2q, y2q, rfl, rn2q, rd2q⟩ := fold_same hD HS2 hm
  clear hm HS2
  replace X := X.below k23
  replace Y := Y.below k23
  replace Z := Z.below k23
  replace A := A.below k23
  replace B := B.below k23
  replace P := P.below k23
  replace Q := Q.below k23
  replace g := g.trans (k23.mono g.size)
  clear k23
  clear T3
  have q0 := Q.box.c0
  have q1 := Q.box.c1
  have q2 := Q.box.c2
  have p0 := Q.box.f0
  have p1 := Q.box.f1
  have p2 := Q.box.f2
  replace X := X.by' Q neXQ (.bool b2) (.slice u2q n2.length v2q) (.slice x2q d2.length y2q)
  replace Y := Y.by' Q neYQ (.bool b2) (.slice u2q n2.length v2q) (.slice x2q d2.length y2q)
  replace Z := Z.by' Q neZQ (.bool b2) (.slice u2q n2.length v2q) (.slice x2q d2.length y2q)
  replace A := A.by' Q neAQ (.bool b2) (.slice u2q n2.length v2q) (.slice x2q d2.length y2q)
  replace B := B.by' Q neBQ (.bool b2) (.slice u2q n2.length v2q) (.slice x2q d2.length y2q)
  replace P := P.by' Q nePQ (.bool b2) (.slice u2q n2.length v2q) (.slice x2q d2.length y2q)
  replace Q := Q.put (c := b2) rn2q rd2q
  replace g := Below.set3 g leQ (.bool b2) (.slice u2q n2.length v2q) (.slice x2q d2.length y2q)
  clear rn2q rd2q
  obtain ⟨P0, P1, P2⟩ := P.cells
  obtain ⟨Q0, Q1, Q2⟩ := Q.cells
  go_wp2_with fail
  clear P0 P1 P2 Q0 Q1 Q2
  clear q0 q1 q2 p0 p1 p2
  generalize hA : (((w22.setCell ⟨w8.heap.size, 0, none⟩ (.bool b2)).setCell ⟨w8.heap.size, 1, none⟩ (.slice u2q n2.length v2q)).setCell ⟨w8.heap.size, 2, none⟩ (.slice x2q d2.length y2q)) = v24 at *
  clear hA
  refine (same_ans e2 P.rn P.rd Q.rn Q.rd).mono ?_
  rintro e w25 ⟨rfl, k26⟩
  replace X := X.below k26
  replace Y := Y.below k26
  replace Z := Z.below k26
  replace A := A.below k26
  replace B := B.below k26
  replace P := P.below k26
  replace Q := Q.below k26
  replace g := g.trans (k26.mono g.size)
  clear k26
  obtain ⟨A0, A1, A2⟩ := A.cells
  obtain ⟨B0, B1, B2⟩ := B.cells
  go_wp2_with fail
  clear A0 A1 A2 B0 B1 B2
  refine (sub_rat A.rn A.rd B.rn B.rd (Nat.le_refl _)).mono ?_
  intro e w27 hm
  obtain ⟨b3, n3, d3, e3, HS3, k28, u3p, v3p, x3p, y3p, rfl, rn3p, rd3p⟩ := hm.spec
  clear hm
  replace X := X.below k28
  replace Y := Y.below k28
  replace Z := Z.below k28
  replace A := A.below k28
  replace B := B.below k28
  replace P := P.below k28
  replace Q := Q.below k28
  replace g := g.trans (k28.mono g.size)
  clear k28
  have q0 := P.box.c0
  have q1 := P.box.c1
  have q2 := P.box.c2
  have p0 := P.box.f0
  have p1 := P.box.f1
  have p2 := P.box.f2
  replace X := X.by' P neXP (.bool b3) (.slice u3p n3.length v3p) (.slice x3p d3.length y3p)
  replace Y := Y.by' P neYP (.bool b3) (.slice u3p n3.length v3p) (.slice x3p d3.length y3p)
  replace Z := Z.by' P neZP (.bool b3) (.slice u3p n3.length v3p) (.slice x3p d3.length y3p)
  replace A := A.by' P neAP (.bool b3) (.slice u3p n3.length v3p) (.slice x3p d3.length y3p)
  replace B := B.by' P neBP (.bool b3) (.slice u3p n3.length v3p) (.slice x3p d3.length y3p)
  replace Q := Q.by' P nePQ.symm (.bool b3) (.slice u3p n3.length v3p) (.slice x3p d3.length y3p)
  replace P := P.put (c := b3) rn3p rd3p
  replace g := Below.set3 g leP (.bool b3) (.slice u3p n3.length v3p) (.slice x3p d3.length y3p)
  clear rn3p rd3p
  obtain ⟨X0, X1, X2⟩ := X.cells
  obtain ⟨Y0, Y1, Y2⟩ := Y.cells
  go_wp2_with fail
  clear X0 X1 X2 Y0 Y1 Y2
  clear q0 q1 q2 p0 p1 p2
  generalize hA : (((w27.setCell ⟨w3.heap.size, 0, none⟩ (.bool b3)).setCell ⟨w3.heap.size, 1, none⟩ (.slice u3p n3.length v3p)).setCell ⟨w3.heap.size, 2, none⟩ (.slice x3p d3.length y3p)) = v29 at *
  clear hA
  refine (refSub_rat X.rn X.rd Y.rn Y.rd).mono ?_
  intro e w30 hm
  obtain ⟨k31, u3q, v3q, x3q, y3q, rfl, rn3q, rd3q⟩ := hm.same hD2 HS3
  clear hm HS3
  replace X := X.below k31
  replace Y := Y.below k31
  replace Z := Z.below k31
  replace A := A.below k31
  replace B := B.below k31
  replace P := P.below k31
  replace Q := Q.below k31
  replace g := g.trans (k31.mono g.size)
  clear k31
  have q0 := Q.box.c0
  have q1 := Q.box.c1
  have q2 := Q.box.c2
  have p0 := Q.box.f0
  have p1 := Q.box.f1
  have p2 := Q.box.f2
  replace X := X.by' Q neXQ (.bool b3) (.slice u3q n3.length v3q) (.slice x3q d3.length y3q)
  replace Y := Y.by' Q neYQ (.bool b3) (.slice u3q n3.length v3q) (.slice x3q d3.length y3q)
  replace Z := Z.by' Q neZQ (.bool b3) (.slice u3q n3.length v3q) (.slice x3q d3.length y3q)
  replace A := A.by' Q neAQ (.bool b3) (.slice u3q n3.length v3q) (.slice x3q d3.length y3q)
  replace B := B.by' Q neBQ (.bool b3) (.slice u3q n3.length v3q) (.slice x3q d3.length y3q)
  replace P := P.by' Q nePQ (.bool b3) (.slice u3q n3.length v3q) (.slice x3q d3.length y3q)
  replace Q := Q.put (c := b3) rn3q rd3q
  replace g := Below.set3 g leQ (.bool b3) (.slice u3q n3.length v3q) (.slice x3q d3.length y3q)
  clear rn3q rd3q
  obtain ⟨P0, P1, P2⟩ := P.cells
  obtain ⟨Q0, Q1, Q2⟩ := Q.cells
  go_wp2_with fail
  clear P0 P1 P2 Q0 Q1 Q2
  clear q0 q1 q2 p0 p1 p2
  generalize hA : (((w30.setCell ⟨w8.heap.size, 0, none⟩ (.bool b3)).setCell ⟨w8.heap.size, 1, none⟩ (.slice u3q n3.length v3q)).setCell ⟨w8.heap.size, 2, none⟩ (.slice x3q d3.length y3q)) = v32 at *
  clear hA
  refine (same_ans e3 P.rn P.rd Q.rn Q.rd).mono ?_
  rintro e w33 ⟨rfl, k34⟩
  replace X := X.below k34
  replace Y := Y.below k34
  replace Z := Z.below k34
  replace A := A.below k34
  replace B := B.below k34
  replace P := P.below k34
  replace Q := Q.below k34
  replace g := g.trans (k34.mono g.size)
  clear k34
  obtain ⟨A0, A1, A2⟩ := A.cells
  obtain ⟨B0, B1, B2⟩ := B.cells
  go_wp2_with fail
  clear A0 A1 A2 B0 B1 B2
  refine (div_all A.rn A.rd B.rn B.rd).mono ?_
  intro e w35 hm
  obtain ⟨b4, n4, d4, e4, HS4, k36, u4p, v4p, x4p, y4p, rfl, rn4p, rd4p⟩ := hm
  replace X := X.below k36
  replace Y := Y.below k36
  replace Z := Z.below k36
  replace A := A.below k36
  replace B := B.below k36
  replace P := P.below k36
  replace Q := Q.below k36
  replace g := g.trans (k36.mono g.size)
  clear k36
  have q0 := P.box.c0
  have q1 := P.box.c1
  have q2 := P.box.c2
  have p0 := P.box.f0
  have p1 := P.box.f1
  have p2 := P.box.f2
  replace X := X.by' P neXP (.bool b4) (.slice u4p n4.length v4p) (.slice x4p d4.length y4p)
  replace Y := Y.by' P neYP (.bool b4) (.slice u4p n4.length v4p) (.slice x4p d4.length y4p)
  replace Z := Z.by' P neZP (.bool b4) (.slice u4p n4.length v4p) (.slice x4p d4.length y4p)
  replace A := A.by' P neAP (.bool b4) (.slice u4p n4.length v4p) (.slice x4p d4.length y4p)
  replace B := B.by' P neBP (.bool b4) (.slice u4p n4.length v4p) (.slice x4p d4.length y4p)
  replace Q := Q.by' P nePQ.symm (.bool b4) (.slice u4p n4.length v4p) (.slice x4p d4.length y4p)
  replace P := P.put (c := b4) rn4p rd4p
  replace g := Below.set3 g leP (.bool b4) (.slice u4p n4.length v4p) (.slice x4p d4.length y4p)
  clear rn4p rd4p
  obtain ⟨X0, X1, X2⟩ := X.cells
  obtain ⟨Y0, Y1, Y2⟩ := Y.cells
  go_wp2_with fail
  clear X0 X1 X2 Y0 Y1 Y2
  clear q0 q1 q2 p0 p1 p2
  generalize hA : (((w35.setCell ⟨w3.heap.size, 0, none⟩ (.bool b4)).setCell ⟨w3.heap.size, 1, none⟩ (.slice u4p n4.length v4p)).setCell ⟨w3.heap.size, 2, none⟩ (.slice x4p d4.length y4p)) = v37 at *
  clear hA
  refine (refDiv_all X.rn X.rd Y.rn Y.rd).mono ?_
  intro e w38 hm
  obtain ⟨k39, u4q, v4q, x4q, y4q, rfl, rn4q, rd4q⟩ := div_same HS4 hm
  clear hm HS4
  replace X := X.below k39
  replace Y := Y.below k39
  replace Z := Z.below k39
  replace A := A.below k39
  replace B := B.below k39
  replace P := P.below k39
  replace Q := Q.below k39
  replace g := g.trans (k39.mono g.size)
  clear k39
  have q0 := Q.box.c0
  have q1 := Q.box.c1
  have q2 := Q.box.c2
  have p0 := Q.box.f0
  have p1 := Q.box.f1
  have p2 := Q.box.f2
  replace X := X.by' Q neXQ (.bool b4) (.slice u4q n4.length v4q) (.slice x4q d4.length y4q)
  replace Y := Y.by' Q neYQ (.bool b4) (.slice u4q n4.length v4q) (.slice x4q d4.length y4q)
  replace Z := Z.by' Q neZQ (.bool b4) (.slice u4q n4.length v4q) (.slice x4q d4.length y4q)
  replace A := A.by' Q neAQ (.bool b4) (.slice u4q n4.length v4q) (.slice x4q d4.length y4q)
  replace B := B.by' Q neBQ (.bool b4) (.slice u4q n4.length v4q) (.slice x4q d4.length y4q)
  replace P := P.by' Q nePQ (.bool b4) (.slice u4q n4.length v4q) (.slice x4q d4.length y4q)
  replace Q := Q.put (c := b4) rn4q rd4q
  replace g := Below.set3 g leQ (.bool b4) (.slice u4q n4.length v4q) (.slice x4q d4.length y4q)
  clear rn4q rd4q
  obtain ⟨P0, P1, P2⟩ := P.cells
  obtain ⟨Q0, Q1, Q2⟩ := Q.cells
  go_wp2_with fail
  clear P0 P1 P2 Q0 Q1 Q2
  clear q0 q1 q2 p0 p1 p2
  generalize hA : (((w38.setCell ⟨w8.heap.size, 0, none⟩ (.bool b4)).setCell ⟨w8.heap.size, 1, none⟩ (.slice u4q n4.length v4q)).setCell ⟨w8.heap.size, 2, none⟩ (.slice x4q d4.length y4q)) = v40 at *
  clear hA
  refine (same_ans e4 P.rn P.rd Q.rn Q.rd).mono ?_
  rintro e w41 ⟨rfl, k42⟩
  replace X := X.below k42
  replace Y := Y.below k42
  replace Z := Z.below k42
  replace A := A.below k42
  replace B := B.below k42
  replace P := P.below k42
  replace Q := Q.below k42
  replace g := g.trans (k42.mono g.size)
  clear k42
  obtain ⟨A0, A1, A2⟩ := A.cells
  obtain ⟨X0, X1, X2⟩ := X.cells
  go_wp2_with fail
  clear A0 A1 A2 X0 X1 X2
  refine (same_rat A.rn A.rd X.rn X.rd).mono ?_
  rintro e w43 ⟨rfl, k44⟩
  replace X := X.below k44
  replace Y := Y.below k44
  replace Z := Z.below k44
  replace A := A.below k44
  replace B := B.below k44
  replace P := P.below k44
  replace Q := Q.below k44
  replace g := g.trans (k44.mono g.size)
  clear k44
  obtain ⟨B0, B1, B2⟩ := B.cells
  obtain ⟨Y0, Y1, Y2⟩ := Y.cells
  go_wp2_with fail
  clear B0 B1 B2 Y0 Y1 Y2
  refine (same_rat B.rn B.rd Y.rn Y.rd).mono ?_
  rintro e w45 ⟨rfl, k46⟩
  replace X := X.below k46
  replace Y := Y.below k46
  replace Z := Z.below k46
  replace A := A.below k46
  replace B := B.below k46
  replace P := P.below k46
  replace Q := Q.below k46
  replace g := g.trans (k46.mono g.size)
  clear k46
  go_wp2
  go_ret
  exact ⟨rfl, g⟩
end Go.Proofs.YtonjbpnpknpbeaaGreatDoor

/- A number among the arguments, and how long its limbs may be. -/
namespace Go.Proofs.YtonjbpnpknpbeaaGreatDoor
set_option linter.unusedVariables false
set_option linter.unusedSimpArgs false
open Go.ChangeShapes Go.WideShapes Go.ChangeAt Go.RowKit Go.Joins


set_option maxRecDepth 100000 in
theorem limbs_len {H : Type} {enc : TypeId × Value → H} {W : World} {a : Option Addr} {xs : List Int} {c : Nat} {y : DataW H × List MemPlace} {fuel : Nat} (hf : DataW.trod enc Tryz.prog W 0 (fun _ => true) true fuel 22 [.slice a xs.length c] = some y) (hw : ∀ n ∈ y.1.weights Tryz.prog 22, n ≤ reachBytes) : xs.length * 4 ≤ 140737488355328 := by
  have hr := reachBytes_lt
  rcases open_ints Tryz.underlying22 Tryz.underlying70 cellsU32 hf with ⟨hcs, hx⟩ | ⟨a', len', cap', zs, hcs, _, hl, hm, hz, hx, hcell, hwz⟩
  · have h0 : xs.length = 0 := by
      have h6 : Value.slice a xs.length c = .slice none 0 0 := by simpa using hcs
      have h7 : a = none ∧ xs.length = 0 ∧ c = 0 := by simpa using h6
      exact h7.2.1
    omega
  · have hv : Value.slice a xs.length c = .slice (some a') len' cap' := by simpa using hcs
    simp only [if_true] at hz
    have hlen : xs.length = len' := by
      have h7 : a = some a' ∧ xs.length = len' ∧ c = cap' := by simpa using hv
      exact h7.2.1
    subst hx
    have h5 := hw ((lits (H := H) .u32 (zs.take len')).length * 4 + (lits (H := H) .u32 (zs.drop len')).length * 4) (by simp [DataW.weights, Tryz.underlying22, bytesU32, Nat.add_mul])
    simp only [lits, List.length_map, List.length_take, List.length_drop] at h5
    omega

set_option maxRecDepth 100000 in
/-- A number among the arguments, with limbs within reach. -/
theorem rat_rds {H : Type} {enc : TypeId × Value → H} {W : World} {base : Nat} {v : Value} {d : DataW H} {p : List MemPlace} (hval : Value.okWide Tryz.prog W .any base 24 v) (h : DataW.Trod enc Tryz.prog W 0 (fun _ => true) true 24 v d p) (hw : ∀ n ∈ d.weights Tryz.prog 24, n ≤ reachBytes) :
    ∃ b a1 ns c1 a2 ds c2, v = .agg #[.bool b, .slice a1 ns.length c1, .slice a2 ds.length c2] ∧ Rd W.heap.size W (.slice a1 ns.length c1) ns ∧ Rd W.heap.size W (.slice a2 ds.length c2) ds ∧ ns.length * 4 ≤ 140737488355328 ∧ ds.length * 4 ≤ 140737488355328 := by
  obtain ⟨v0, v1, v2, y0, y1, y2, n, rfl, hd, _, hy0, hy1, hy2⟩ := open_agg3 Tryz.underlying24 (by kernel_rfl) cellsRat hval h
  obtain ⟨b, hb, _⟩ := DataW.trod_bool Tryz.underlying4 hy0
  obtain ⟨a1, ns, c1, rfl, r1⟩ := limbs_rd hy1
  obtain ⟨a2, ds, c2, rfl, r2⟩ := limbs_rd hy2
  have hb' : v0 = .bool b := by simpa using hb
  subst hb'
  subst hd
  refine ⟨b, a1, ns, c1, a2, ds, c2, rfl, r1, r2, limbs_len hy1 (fun n hn => hw n ?_), limbs_len hy2 (fun n hn => hw n ?_)⟩
  · simp [DataW.weights, DataW.weightsEach, Tryz.underlying24]
    exact Or.inr (Or.inl hn)
  · simp [DataW.weights, DataW.weightsEach, Tryz.underlying24]
    exact Or.inr (Or.inr hn)
end Go.Proofs.YtonjbpnpknpbeaaGreatDoor
