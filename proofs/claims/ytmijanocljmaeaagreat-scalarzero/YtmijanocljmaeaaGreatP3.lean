/- pairing.numbers of any two right numbers: what is only looked at. -/
import Derived.Test.YtmijanocljmaeaaGreatP1
namespace Go.Proofs.YtmijanocljmaeaaGreat
set_option linter.unusedVariables false
set_option linter.unusedSimpArgs false
open Go.RowKit

section
variable {w w0 : World} {bx cy : Bool} {a1 a2 a3 a4 : Option Addr} {xn xd yn yd : List Int} {c1 c2 c3 c4 : Nat} {p kf : Nat} {caps : Array Value} {d : Dy} {cc kk gl : Int}
set_option maxRecDepth 100000 in
set_option maxHeartbeats 16000000 in
theorem numbers_A (HU : Hid (UnOK d)) (hgl : d.gl ≠ 42 ∧ d.gl ≠ 33) (k0 : Kp p w0 w) (hp : p < w.heap.size) (q0 : w.cell? ⟨p, 0, none⟩ = some (.int .i32 d.gl)) (q1 : w.cell? ⟨p, 1, none⟩ = some (.func (.func kf) #[] caps)) (q2 : w.cell? ⟨p, 2, none⟩ = some (.int .i64 cc)) (q3 : w.cell? ⟨p, 3, none⟩ = some (.int .i64 kk)) (hk : kk < cc) (hs : smallS (numT bx xn xd) (numT cy yn yd) = true) (rx : RightP bx xn xd) (ry : RightP cy yn yd) (h1 : Rd w.heap.size w (.slice a1 xn.length c1) xn) (h2 : Rd w.heap.size w (.slice a2 xd.length c2) xd) (h3 : Rd w.heap.size w (.slice a3 yn.length c3) yn) (h4 : Rd w.heap.size w (.slice a4 yd.length c4) yd) :
    Calls Tryz.prog 141 #[.pointer (some ⟨p, 0, none⟩), .agg #[.bool bx, .slice a1 xn.length c1, .slice a2 xd.length c2], .agg #[.bool cy, .slice a3 yn.length c3, .slice a4 yd.length c4]] w fun e w' => NumR5 w.heap.size (unS d (numT bx xn xd) (numT cy yn yd)) e w' ∧ Below w.heap.size w w' := by
 have k1 := below_alloc w (.cells #[.bool bx, .slice a1 xn.length c1, .slice a2 xd.length c2] 33)
 have k2 := below_alloc (w.alloc (.cells #[.bool bx, .slice a1 xn.length c1, .slice a2 xd.length c2] 33)) (.cells #[.bool cy, .slice a3 yn.length c3, .slice a4 yd.length c4] 33)
 have k3 := below_alloc ((w.alloc (.cells #[.bool bx, .slice a1 xn.length c1, .slice a2 xd.length c2] 33)).alloc (.cells #[.bool cy, .slice a3 yn.length c3, .slice a4 yd.length c4] 33)) (.cells #[.bool false, .slice none 0 0, .slice none 0 0] 33)
 have k23 : Below (w.alloc (.cells #[.bool bx, .slice a1 xn.length c1, .slice a2 xd.length c2] 33)).heap.size (w.alloc (.cells #[.bool bx, .slice a1 xn.length c1, .slice a2 xd.length c2] 33)) (((w.alloc (.cells #[.bool bx, .slice a1 xn.length c1, .slice a2 xd.length c2] 33)).alloc (.cells #[.bool cy, .slice a3 yn.length c3, .slice a4 yd.length c4] 33)).alloc (.cells #[.bool false, .slice none 0 0, .slice none 0 0] 33)) := k2.trans (k3.mono (by simp))
 have X := (boxA_new w #[.bool bx, .slice a1 xn.length c1, .slice a2 xd.length c2] 33).below k23 (by simp)
 have Y := (boxA_new (w.alloc (.cells #[.bool bx, .slice a1 xn.length c1, .slice a2 xd.length c2] 33)) #[.bool cy, .slice a3 yn.length c3, .slice a4 yd.length c4] 33).below k3 (by simp)
 have R := boxA_new ((w.alloc (.cells #[.bool bx, .slice a1 xn.length c1, .slice a2 xd.length c2] 33)).alloc (.cells #[.bool cy, .slice a3 yn.length c3, .slice a4 yd.length c4] 33)) #[.bool false, .slice none 0 0, .slice none 0 0] 33
 rw [World.size_alloc] at Y
 have sz : ((w.alloc (.cells #[.bool bx, .slice a1 xn.length c1, .slice a2 xd.length c2] 33)).alloc (.cells #[.bool cy, .slice a3 yn.length c3, .slice a4 yd.length c4] 33)).heap.size = w.heap.size + 1 + 1 := by simp
 rw [sz] at R
 have g : Below w.heap.size w (((w.alloc (.cells #[.bool bx, .slice a1 xn.length c1, .slice a2 xd.length c2] 33)).alloc (.cells #[.bool cy, .slice a3 yn.length c3, .slice a4 yd.length c4] 33)).alloc (.cells #[.bool false, .slice none 0 0, .slice none 0 0] 33)) := k1.trans (k23.mono (by simp))
 have s3 : (((w.alloc (.cells #[.bool bx, .slice a1 xn.length c1, .slice a2 xd.length c2] 33)).alloc (.cells #[.bool cy, .slice a3 yn.length c3, .slice a4 yd.length c4] 33)).alloc (.cells #[.bool false, .slice none 0 0, .slice none 0 0] 33)).heap.size = w.heap.size + 1 + 1 + 1 := by simp
 have HC : Hid (∀ {w' : World}, Below (((w.alloc (.cells #[.bool bx, .slice a1 xn.length c1, .slice a2 xd.length c2] 33)).alloc (.cells #[.bool cy, .slice a3 yn.length c3, .slice a4 yd.length c4] 33)).alloc (.cells #[.bool false, .slice none 0 0, .slice none 0 0] 33)).heap.size (((w.alloc (.cells #[.bool bx, .slice a1 xn.length c1, .slice a2 xd.length c2] 33)).alloc (.cells #[.bool cy, .slice a3 yn.length c3, .slice a4 yd.length c4] 33)).alloc (.cells #[.bool false, .slice none 0 0, .slice none 0 0] 33)) w' → w'.cell? ⟨p, 0, none⟩ = some (.int .i32 d.gl) ∧ w'.cell? ⟨p, 1, none⟩ = some (.func (.func kf) #[] caps) ∧ w'.cell? ⟨p, 2, none⟩ = some (.int .i64 cc) ∧ w'.cell? ⟨p, 3, none⟩ = some (.int .i64 kk) ∧ w'.cell? ⟨w.heap.size, 0, none⟩ = some (.bool bx) ∧ w'.cell? ⟨w.heap.size, 1, none⟩ = some (.slice a1 xn.length c1) ∧ w'.cell? ⟨w.heap.size, 2, none⟩ = some (.slice a2 xd.length c2) ∧ w'.cell? ⟨w.heap.size + 1, 0, none⟩ = some (.bool cy) ∧ w'.cell? ⟨w.heap.size + 1, 1, none⟩ = some (.slice a3 yn.length c3) ∧ w'.cell? ⟨w.heap.size + 1, 2, none⟩ = some (.slice a4 yd.length c4)) := fun k => ⟨((g.trans (k.mono (by omega))).cell (p := ⟨p, 0, none⟩) hp).trans q0, ((g.trans (k.mono (by omega))).cell (p := ⟨p, 1, none⟩) hp).trans q1, ((g.trans (k.mono (by omega))).cell (p := ⟨p, 2, none⟩) hp).trans q2, ((g.trans (k.mono (by omega))).cell (p := ⟨p, 3, none⟩) hp).trans q3, (X.below k (by omega)).cell 0 rfl, (X.below k (by omega)).cell 1 rfl, (X.below k (by omega)).cell 2 rfl, (Y.below k (by omega)).cell 0 rfl, (Y.below k (by omega)).cell 1 rfl, (Y.below k (by omega)).cell 2 rfl⟩
 have H1 : Hid (Rd w.heap.size w (.slice a1 xn.length c1) xn) := h1
 have H2 : Hid (Rd w.heap.size w (.slice a2 xd.length c2) xd) := h2
 have H3 : Hid (Rd w.heap.size w (.slice a3 yn.length c3) yn) := h3
 have H4 : Hid (Rd w.heap.size w (.slice a4 yd.length c4) yd) := h4
 have HX : Hid (RightP bx xn xd) := rx
 have HY : Hid (RightP cy yn yd) := ry
 have HP : Hid (Kp p w0 w) := k0
 clear k1 k2 k3 k23 q0 q1 q2 q3 h1 h2 h3 h4 rx ry k0
 go_enter Tryz.func141, Tryz.ntmps141
 go_upto_region 1 with fail
 generalize hA : (((w.alloc (.cells #[.bool bx, .slice a1 xn.length c1, .slice a2 xd.length c2] 33)).alloc (.cells #[.bool cy, .slice a3 yn.length c3, .slice a4 yd.length c4] 33)).alloc (.cells #[.bool false, .slice none 0 0, .slice none 0 0] 33)) = v at *
 clear hA
 have d0 : Below v.heap.size v v.drew := ⟨rfl, rfl, rfl, Nat.le_refl _, fun _ _ => rfl⟩
 have j0 := HC.out d0
 have hgt : (kk < cc) = True := by simp [hk]
 have K1 : Hid (Calls Tryz.prog 164 #[.int .i32 d.gl, .pointer (some ⟨w.heap.size, 0, none⟩), .pointer (some ⟨w.heap.size + 1, 0, none⟩)] v.drew fun e w' => e = .returned (.bool true) ∧ Below v.drew.heap.size v.drew w') := isSmall5_any hgl.1 hgl.2 j0.2.2.2.2.2.1 j0.2.2.2.2.2.2.1 j0.2.2.2.2.2.2.2.2.1 j0.2.2.2.2.2.2.2.2.2 HX.out.1 HX.out.2.1 HY.out.1 HY.out.2.1 (by exact hs)
 go_region_held3 (fun w' => w'.cell? ⟨p, 0, none⟩ = some (.int .i32 d.gl) ∧ w'.cell? ⟨p, 1, none⟩ = some (.func (.func kf) #[] caps) ∧ w'.cell? ⟨p, 2, none⟩ = some (.int .i64 cc) ∧ w'.cell? ⟨p, 3, none⟩ = some (.int .i64 kk) ∧ w'.cell? ⟨w.heap.size, 0, none⟩ = some (.bool bx) ∧ w'.cell? ⟨w.heap.size, 1, none⟩ = some (.slice a1 xn.length c1) ∧ w'.cell? ⟨w.heap.size, 2, none⟩ = some (.slice a2 xd.length c2) ∧ w'.cell? ⟨w.heap.size + 1, 0, none⟩ = some (.bool cy) ∧ w'.cell? ⟨w.heap.size + 1, 1, none⟩ = some (.slice a3 yn.length c3) ∧ w'.cell? ⟨w.heap.size + 1, 2, none⟩ = some (.slice a4 yd.length c4))
  (first | exact jj1 | exact j0)
  (first | (go_at_call 164; refine K1.out.mono ?_; rintro e w1 ⟨rfl, q1⟩; have kk1 : Below v.heap.size v w1 := d0.trans (q1.mono d0.size); have jj1 := HC.out kk1))
 go_upto_region 2 with fail
 have d1 : Below v.heap.size v w1.drew := kk1.trans ⟨rfl, rfl, rfl, Nat.le_refl _, fun _ _ => rfl⟩
 obtain ⟨e0, e1, e2, e3, e4, e5, e6, e7, e8, e9⟩ := HC.out d1
 obtain ⟨e0', e1', e2', e3', e4', e5', e6', e7', e8', e9'⟩ := HC.out kk1
 have HRW : Hid (∀ {w' : World}, Below v.heap.size v w' → BoxA w' (w.heap.size + 1 + 1) 33 #[.bool false, .slice none 0 0, .slice none 0 0]) := fun k => R.below k (by omega)
 have s1 := kk1.size
 have s1' := d1.size
 have gd : Below w.heap.size w w1.drew := g.trans (d1.mono g.size)
 obtain ⟨er, hER⟩ : ∃ er, (unS d (numT bx xn xd) (numT cy yn yd)).1 = er := ⟨_, rfl⟩
 have K2 : Hid (Calls Tryz.prog 41 #[.int .i32 d.gl, .agg #[.bool bx, .slice a1 xn.length c1, .slice a2 xd.length c2], .agg #[.bool cy, .slice a3 yn.length c3, .slice a4 yd.length c4]] w1.drew fun e w' => NumE w1.drew.heap.size er (fun b ns ds => er = 0 → numT b ns ds = (unS d (numT bx xn xd) (numT cy yn yd)).2) e w' ∧ Below w1.drew.heap.size w1.drew w') := by
  have := HU.out w1.drew bx cy a1 a2 a3 a4 xn xd yn yd c1 c2 c3 c4 HX.out HY.out ((H1.out.below gd).mono gd.size) ((H2.out.below gd).mono gd.size) ((H3.out.below gd).mono gd.size) ((H4.out.below gd).mono gd.size)
  unfold NumR5 at this; rw [hER] at this; exact this
 have HER : Hid ((unS d (numT bx xn xd) (numT cy yn yd)).1 = er) := hER
 clear hER
 first | go_region_with (go_at_call 41; refine K2.out.mono ?_; rintro e w2 ⟨⟨b, z1, ns, u1, z2, ds, u2, rfl, ho1, ho2, hT⟩, q2⟩; have kk2 : Below v.heap.size v w2 := d1.trans (q2.mono d1.size); have R2 := HRW.out kk2; have r0 := R2.cell 0 rfl; have r1 := R2.cell 1 rfl; have r2 := R2.cell 2 rfl; have f0 := R2.frozen 0; have f1 := R2.frozen 1; have f2 := R2.frozen 2) | fail
 all_goals
  have R3 := ((R2.put 0 (.bool b)).put 1 (.slice z1 ns.length u1)).put 2 (.slice z2 ds.length u2)
  have y0 := R3.cell 0 rfl
  have y1 := R3.cell 1 rfl
  have y2 := R3.cell 2 rfl
  go_wp2
  refine bodyPost_ret (v := .tuple #[.agg #[.bool b, .slice z1 ns.length u1, .slice z2 ds.length u2], .int .i64 er]) (by simp [results, Tryz.results141, go_sem, y0, y1, y2]) rfl ?_
  exact ⟨numE_of HER.out ⟨b, z1, ns, u1, z2, ds, u2, rfl, (ho1.set3 (by omega) _ _ _).mono (by omega), (ho2.set3 (by omega) _ _ _).mono (by omega), hT⟩ (by rfl), Below.set3 (g.trans (kk2.mono g.size)) (by omega) _ _ _⟩
end
end Go.Proofs.YtmijanocljmaeaaGreat

/- pairing.numbers of any two right numbers: what may be too great, behind what is kept. -/
namespace Go.Proofs.YtmijanocljmaeaaGreat
set_option linter.unusedVariables false
set_option linter.unusedSimpArgs false
open Go.RowKit

section
variable {w w0 : World} {bx cy : Bool} {a1 a2 a3 a4 : Option Addr} {xn xd yn yd : List Int} {c1 c2 c3 c4 : Nat} {p kf : Nat} {caps : Array Value} {d : Dy} {cc kk gl : Int}
set_option maxRecDepth 100000 in
set_option maxHeartbeats 16000000 in
theorem numbers_B (HD : Hid (DoOK d kf caps p w0)) (hgl : d.gl ≠ 42 ∧ d.gl ≠ 33) (k0 : Kp p w0 w) (hp : p < w.heap.size) (q0 : w.cell? ⟨p, 0, none⟩ = some (.int .i32 d.gl)) (q1 : w.cell? ⟨p, 1, none⟩ = some (.func (.func kf) #[] caps)) (q2 : w.cell? ⟨p, 2, none⟩ = some (.int .i64 cc)) (q3 : w.cell? ⟨p, 3, none⟩ = some (.int .i64 kk)) (hk : kk < cc) (hs : smallS (numT bx xn xd) (numT cy yn yd) = false) (rx : RightP bx xn xd) (ry : RightP cy yn yd) (h1 : Rd w.heap.size w (.slice a1 xn.length c1) xn) (h2 : Rd w.heap.size w (.slice a2 xd.length c2) xd) (h3 : Rd w.heap.size w (.slice a3 yn.length c3) yn) (h4 : Rd w.heap.size w (.slice a4 yd.length c4) yd) :
    Calls Tryz.prog 141 #[.pointer (some ⟨p, 0, none⟩), .agg #[.bool bx, .slice a1 xn.length c1, .slice a2 xd.length c2], .agg #[.bool cy, .slice a3 yn.length c3, .slice a4 yd.length c4]] w fun e w' => NumR5 w.heap.size (d.op (numT bx xn xd) (numT cy yn yd)) e w' ∧ Below w.heap.size w w' := by
 have k1 := below_alloc w (.cells #[.bool bx, .slice a1 xn.length c1, .slice a2 xd.length c2] 33)
 have k2 := below_alloc (w.alloc (.cells #[.bool bx, .slice a1 xn.length c1, .slice a2 xd.length c2] 33)) (.cells #[.bool cy, .slice a3 yn.length c3, .slice a4 yd.length c4] 33)
 have k3 := below_alloc ((w.alloc (.cells #[.bool bx, .slice a1 xn.length c1, .slice a2 xd.length c2] 33)).alloc (.cells #[.bool cy, .slice a3 yn.length c3, .slice a4 yd.length c4] 33)) (.cells #[.bool false, .slice none 0 0, .slice none 0 0] 33)
 have k23 : Below (w.alloc (.cells #[.bool bx, .slice a1 xn.length c1, .slice a2 xd.length c2] 33)).heap.size (w.alloc (.cells #[.bool bx, .slice a1 xn.length c1, .slice a2 xd.length c2] 33)) (((w.alloc (.cells #[.bool bx, .slice a1 xn.length c1, .slice a2 xd.length c2] 33)).alloc (.cells #[.bool cy, .slice a3 yn.length c3, .slice a4 yd.length c4] 33)).alloc (.cells #[.bool false, .slice none 0 0, .slice none 0 0] 33)) := k2.trans (k3.mono (by simp))
 have X := (boxA_new w #[.bool bx, .slice a1 xn.length c1, .slice a2 xd.length c2] 33).below k23 (by simp)
 have Y := (boxA_new (w.alloc (.cells #[.bool bx, .slice a1 xn.length c1, .slice a2 xd.length c2] 33)) #[.bool cy, .slice a3 yn.length c3, .slice a4 yd.length c4] 33).below k3 (by simp)
 have R := boxA_new ((w.alloc (.cells #[.bool bx, .slice a1 xn.length c1, .slice a2 xd.length c2] 33)).alloc (.cells #[.bool cy, .slice a3 yn.length c3, .slice a4 yd.length c4] 33)) #[.bool false, .slice none 0 0, .slice none 0 0] 33
 rw [World.size_alloc] at Y
 have sz : ((w.alloc (.cells #[.bool bx, .slice a1 xn.length c1, .slice a2 xd.length c2] 33)).alloc (.cells #[.bool cy, .slice a3 yn.length c3, .slice a4 yd.length c4] 33)).heap.size = w.heap.size + 1 + 1 := by simp
 rw [sz] at R
 have g : Below w.heap.size w (((w.alloc (.cells #[.bool bx, .slice a1 xn.length c1, .slice a2 xd.length c2] 33)).alloc (.cells #[.bool cy, .slice a3 yn.length c3, .slice a4 yd.length c4] 33)).alloc (.cells #[.bool false, .slice none 0 0, .slice none 0 0] 33)) := k1.trans (k23.mono (by simp))
 have s3 : (((w.alloc (.cells #[.bool bx, .slice a1 xn.length c1, .slice a2 xd.length c2] 33)).alloc (.cells #[.bool cy, .slice a3 yn.length c3, .slice a4 yd.length c4] 33)).alloc (.cells #[.bool false, .slice none 0 0, .slice none 0 0] 33)).heap.size = w.heap.size + 1 + 1 + 1 := by simp
 have HC : Hid (∀ {w' : World}, Below (((w.alloc (.cells #[.bool bx, .slice a1 xn.length c1, .slice a2 xd.length c2] 33)).alloc (.cells #[.bool cy, .slice a3 yn.length c3, .slice a4 yd.length c4] 33)).alloc (.cells #[.bool false, .slice none 0 0, .slice none 0 0] 33)).heap.size (((w.alloc (.cells #[.bool bx, .slice a1 xn.length c1, .slice a2 xd.length c2] 33)).alloc (.cells #[.bool cy, .slice a3 yn.length c3, .slice a4 yd.length c4] 33)).alloc (.cells #[.bool false, .slice none 0 0, .slice none 0 0] 33)) w' → w'.cell? ⟨p, 0, none⟩ = some (.int .i32 d.gl) ∧ w'.cell? ⟨p, 1, none⟩ = some (.func (.func kf) #[] caps) ∧ w'.cell? ⟨p, 2, none⟩ = some (.int .i64 cc) ∧ w'.cell? ⟨p, 3, none⟩ = some (.int .i64 kk) ∧ w'.cell? ⟨w.heap.size, 0, none⟩ = some (.bool bx) ∧ w'.cell? ⟨w.heap.size, 1, none⟩ = some (.slice a1 xn.length c1) ∧ w'.cell? ⟨w.heap.size, 2, none⟩ = some (.slice a2 xd.length c2) ∧ w'.cell? ⟨w.heap.size + 1, 0, none⟩ = some (.bool cy) ∧ w'.cell? ⟨w.heap.size + 1, 1, none⟩ = some (.slice a3 yn.length c3) ∧ w'.cell? ⟨w.heap.size + 1, 2, none⟩ = some (.slice a4 yd.length c4)) := fun k => ⟨((g.trans (k.mono (by omega))).cell (p := ⟨p, 0, none⟩) hp).trans q0, ((g.trans (k.mono (by omega))).cell (p := ⟨p, 1, none⟩) hp).trans q1, ((g.trans (k.mono (by omega))).cell (p := ⟨p, 2, none⟩) hp).trans q2, ((g.trans (k.mono (by omega))).cell (p := ⟨p, 3, none⟩) hp).trans q3, (X.below k (by omega)).cell 0 rfl, (X.below k (by omega)).cell 1 rfl, (X.below k (by omega)).cell 2 rfl, (Y.below k (by omega)).cell 0 rfl, (Y.below k (by omega)).cell 1 rfl, (Y.below k (by omega)).cell 2 rfl⟩
 have H1 : Hid (Rd w.heap.size w (.slice a1 xn.length c1) xn) := h1
 have H2 : Hid (Rd w.heap.size w (.slice a2 xd.length c2) xd) := h2
 have H3 : Hid (Rd w.heap.size w (.slice a3 yn.length c3) yn) := h3
 have H4 : Hid (Rd w.heap.size w (.slice a4 yd.length c4) yd) := h4
 have HX : Hid (RightP bx xn xd) := rx
 have HY : Hid (RightP cy yn yd) := ry
 have HP : Hid (Kp p w0 w) := k0
 clear k1 k2 k3 k23 q0 q1 q2 q3 h1 h2 h3 h4 rx ry k0
 go_enter Tryz.func141, Tryz.ntmps141
 go_upto_region 1 with fail
 generalize hA : (((w.alloc (.cells #[.bool bx, .slice a1 xn.length c1, .slice a2 xd.length c2] 33)).alloc (.cells #[.bool cy, .slice a3 yn.length c3, .slice a4 yd.length c4] 33)).alloc (.cells #[.bool false, .slice none 0 0, .slice none 0 0] 33)) = v at *
 clear hA
 have d0 : Below v.heap.size v v.drew := ⟨rfl, rfl, rfl, Nat.le_refl _, fun _ _ => rfl⟩
 have j0 := HC.out d0
 have hgt : (kk < cc) = True := by simp [hk]
 have K1 : Hid (Calls Tryz.prog 164 #[.int .i32 d.gl, .pointer (some ⟨w.heap.size, 0, none⟩), .pointer (some ⟨w.heap.size + 1, 0, none⟩)] v.drew fun e w' => e = .returned (.bool false) ∧ Below v.drew.heap.size v.drew w') := isSmall5_any hgl.1 hgl.2 j0.2.2.2.2.2.1 j0.2.2.2.2.2.2.1 j0.2.2.2.2.2.2.2.2.1 j0.2.2.2.2.2.2.2.2.2 HX.out.1 HX.out.2.1 HY.out.1 HY.out.2.1 (by exact hs)
 go_region_held3 (fun w' => w'.cell? ⟨p, 0, none⟩ = some (.int .i32 d.gl) ∧ w'.cell? ⟨p, 1, none⟩ = some (.func (.func kf) #[] caps) ∧ w'.cell? ⟨p, 2, none⟩ = some (.int .i64 cc) ∧ w'.cell? ⟨p, 3, none⟩ = some (.int .i64 kk) ∧ w'.cell? ⟨w.heap.size, 0, none⟩ = some (.bool bx) ∧ w'.cell? ⟨w.heap.size, 1, none⟩ = some (.slice a1 xn.length c1) ∧ w'.cell? ⟨w.heap.size, 2, none⟩ = some (.slice a2 xd.length c2) ∧ w'.cell? ⟨w.heap.size + 1, 0, none⟩ = some (.bool cy) ∧ w'.cell? ⟨w.heap.size + 1, 1, none⟩ = some (.slice a3 yn.length c3) ∧ w'.cell? ⟨w.heap.size + 1, 2, none⟩ = some (.slice a4 yd.length c4))
  (first | exact jj1 | exact j0)
  (first | (go_at_call 164; refine K1.out.mono ?_; rintro e w1 ⟨rfl, q1⟩; have kk1 : Below v.heap.size v w1 := d0.trans (q1.mono d0.size); have jj1 := HC.out kk1))
 go_upto_region 3 with fail
 have d1 : Below v.heap.size v w1.drew := kk1.trans ⟨rfl, rfl, rfl, Nat.le_refl _, fun _ _ => rfl⟩
 obtain ⟨e0, e1, e2, e3, e4, e5, e6, e7, e8, e9⟩ := HC.out d1
 obtain ⟨e0', e1', e2', e3', e4', e5', e6', e7', e8', e9'⟩ := HC.out kk1
 have HRW : Hid (∀ {w' : World}, Below v.heap.size v w' → BoxA w' (w.heap.size + 1 + 1) 33 #[.bool false, .slice none 0 0, .slice none 0 0]) := fun k => R.below k (by omega)
 have s1 := kk1.size
 have s1' := d1.size
 have gd : Below w.heap.size w w1.drew := g.trans (d1.mono g.size)
 obtain ⟨er, hER⟩ : ∃ er, (d.op (numT bx xn xd) (numT cy yn yd)).1 = er := ⟨_, rfl⟩
 have K2 : Hid (Calls Tryz.prog kf (#[.agg #[.bool bx, .slice a1 xn.length c1, .slice a2 xd.length c2], .agg #[.bool cy, .slice a3 yn.length c3, .slice a4 yd.length c4]] ++ caps) w1.drew fun e w' => NumE w1.drew.heap.size er (fun b ns ds => er = 0 → numT b ns ds = (d.op (numT bx xn xd) (numT cy yn yd)).2) e w' ∧ Below w1.drew.heap.size w1.drew w') := by
  have := HD.out.call w1.drew (HP.out.trans (Kp.of_below gd)) bx cy a1 a2 a3 a4 xn xd yn yd c1 c2 c3 c4 HX.out HY.out ((H1.out.below gd).mono gd.size) ((H2.out.below gd).mono gd.size) ((H3.out.below gd).mono gd.size) ((H4.out.below gd).mono gd.size)
  unfold NumR5 at this; rw [hER] at this; exact this
 have HER : Hid ((d.op (numT bx xn xd) (numT cy yn yd)).1 = er) := hER
 clear hER
 first | go_region_with (go_simp; rw [HD.out.enter, Oper.upon_enter]; refine K2.out.mono ?_; rintro e w2 ⟨⟨b, z1, ns, u1, z2, ds, u2, rfl, ho1, ho2, hT⟩, q2⟩; have kk2 : Below v.heap.size v w2 := d1.trans (q2.mono d1.size); have R2 := HRW.out kk2; have r0 := R2.cell 0 rfl; have r1 := R2.cell 1 rfl; have r2 := R2.cell 2 rfl; have f0 := R2.frozen 0; have f1 := R2.frozen 1; have f2 := R2.frozen 2) | fail
 all_goals
  have R3 := ((R2.put 0 (.bool b)).put 1 (.slice z1 ns.length u1)).put 2 (.slice z2 ds.length u2)
  have y0 := R3.cell 0 rfl
  have y1 := R3.cell 1 rfl
  have y2 := R3.cell 2 rfl
  go_wp2
  refine bodyPost_ret (v := .tuple #[.agg #[.bool b, .slice z1 ns.length u1, .slice z2 ds.length u2], .int .i64 er]) (by simp [results, Tryz.results141, go_sem, y0, y1, y2]) rfl ?_
  exact ⟨numE_of HER.out ⟨b, z1, ns, u1, z2, ds, u2, rfl, (ho1.set3 (by omega) _ _ _).mono (by omega), (ho2.set3 (by omega) _ _ _).mono (by omega), hT⟩ (by rfl), Below.set3 (g.trans (kk2.mono g.size)) (by omega) _ _ _⟩
end
end Go.Proofs.YtmijanocljmaeaaGreat

/- pairing.numbers of any two right numbers: what is kept. -/
namespace Go.Proofs.YtmijanocljmaeaaGreat
set_option linter.unusedVariables false
set_option linter.unusedSimpArgs false
open Go.RowKit

section
variable {w w0 : World} {bx cy : Bool} {a1 a2 a3 a4 : Option Addr} {xn xd yn yd : List Int} {c1 c2 c3 c4 : Nat} {p kf : Nat} {caps : Array Value} {d : Dy} {cc kk gl : Int}
set_option maxRecDepth 100000 in
set_option maxHeartbeats 16000000 in
theorem numbers_C (HD : Hid (DoOK d kf caps p w0)) (k0 : Kp p w0 w) (hp : p < w.heap.size) (q0 : w.cell? ⟨p, 0, none⟩ = some (.int .i32 d.gl)) (q1 : w.cell? ⟨p, 1, none⟩ = some (.func (.func kf) #[] caps)) (q2 : w.cell? ⟨p, 2, none⟩ = some (.int .i64 cc)) (q3 : w.cell? ⟨p, 3, none⟩ = some (.int .i64 kk)) (hk : ¬ kk < cc) (rx : RightP bx xn xd) (ry : RightP cy yn yd) (h1 : Rd w.heap.size w (.slice a1 xn.length c1) xn) (h2 : Rd w.heap.size w (.slice a2 xd.length c2) xd) (h3 : Rd w.heap.size w (.slice a3 yn.length c3) yn) (h4 : Rd w.heap.size w (.slice a4 yd.length c4) yd) :
    Calls Tryz.prog 141 #[.pointer (some ⟨p, 0, none⟩), .agg #[.bool bx, .slice a1 xn.length c1, .slice a2 xd.length c2], .agg #[.bool cy, .slice a3 yn.length c3, .slice a4 yd.length c4]] w fun e w' => NumR5 w.heap.size (d.op (numT bx xn xd) (numT cy yn yd)) e w' ∧ Below w.heap.size w w' := by
 have k1 := below_alloc w (.cells #[.bool bx, .slice a1 xn.length c1, .slice a2 xd.length c2] 33)
 have k2 := below_alloc (w.alloc (.cells #[.bool bx, .slice a1 xn.length c1, .slice a2 xd.length c2] 33)) (.cells #[.bool cy, .slice a3 yn.length c3, .slice a4 yd.length c4] 33)
 have k3 := below_alloc ((w.alloc (.cells #[.bool bx, .slice a1 xn.length c1, .slice a2 xd.length c2] 33)).alloc (.cells #[.bool cy, .slice a3 yn.length c3, .slice a4 yd.length c4] 33)) (.cells #[.bool false, .slice none 0 0, .slice none 0 0] 33)
 have k23 : Below (w.alloc (.cells #[.bool bx, .slice a1 xn.length c1, .slice a2 xd.length c2] 33)).heap.size (w.alloc (.cells #[.bool bx, .slice a1 xn.length c1, .slice a2 xd.length c2] 33)) (((w.alloc (.cells #[.bool bx, .slice a1 xn.length c1, .slice a2 xd.length c2] 33)).alloc (.cells #[.bool cy, .slice a3 yn.length c3, .slice a4 yd.length c4] 33)).alloc (.cells #[.bool false, .slice none 0 0, .slice none 0 0] 33)) := k2.trans (k3.mono (by simp))
 have X := (boxA_new w #[.bool bx, .slice a1 xn.length c1, .slice a2 xd.length c2] 33).below k23 (by simp)
 have Y := (boxA_new (w.alloc (.cells #[.bool bx, .slice a1 xn.length c1, .slice a2 xd.length c2] 33)) #[.bool cy, .slice a3 yn.length c3, .slice a4 yd.length c4] 33).below k3 (by simp)
 have R := boxA_new ((w.alloc (.cells #[.bool bx, .slice a1 xn.length c1, .slice a2 xd.length c2] 33)).alloc (.cells #[.bool cy, .slice a3 yn.length c3, .slice a4 yd.length c4] 33)) #[.bool false, .slice none 0 0, .slice none 0 0] 33
 rw [World.size_alloc] at Y
 have sz : ((w.alloc (.cells #[.bool bx, .slice a1 xn.length c1, .slice a2 xd.length c2] 33)).alloc (.cells #[.bool cy, .slice a3 yn.length c3, .slice a4 yd.length c4] 33)).heap.size = w.heap.size + 1 + 1 := by simp
 rw [sz] at R
 have g : Below w.heap.size w (((w.alloc (.cells #[.bool bx, .slice a1 xn.length c1, .slice a2 xd.length c2] 33)).alloc (.cells #[.bool cy, .slice a3 yn.length c3, .slice a4 yd.length c4] 33)).alloc (.cells #[.bool false, .slice none 0 0, .slice none 0 0] 33)) := k1.trans (k23.mono (by simp))
 have s3 : (((w.alloc (.cells #[.bool bx, .slice a1 xn.length c1, .slice a2 xd.length c2] 33)).alloc (.cells #[.bool cy, .slice a3 yn.length c3, .slice a4 yd.length c4] 33)).alloc (.cells #[.bool false, .slice none 0 0, .slice none 0 0] 33)).heap.size = w.heap.size + 1 + 1 + 1 := by simp
 have HC : Hid (∀ {w' : World}, Below (((w.alloc (.cells #[.bool bx, .slice a1 xn.length c1, .slice a2 xd.length c2] 33)).alloc (.cells #[.bool cy, .slice a3 yn.length c3, .slice a4 yd.length c4] 33)).alloc (.cells #[.bool false, .slice none 0 0, .slice none 0 0] 33)).heap.size (((w.alloc (.cells #[.bool bx, .slice a1 xn.length c1, .slice a2 xd.length c2] 33)).alloc (.cells #[.bool cy, .slice a3 yn.length c3, .slice a4 yd.length c4] 33)).alloc (.cells #[.bool false, .slice none 0 0, .slice none 0 0] 33)) w' → w'.cell? ⟨p, 0, none⟩ = some (.int .i32 d.gl) ∧ w'.cell? ⟨p, 1, none⟩ = some (.func (.func kf) #[] caps) ∧ w'.cell? ⟨p, 2, none⟩ = some (.int .i64 cc) ∧ w'.cell? ⟨p, 3, none⟩ = some (.int .i64 kk) ∧ w'.cell? ⟨w.heap.size, 0, none⟩ = some (.bool bx) ∧ w'.cell? ⟨w.heap.size, 1, none⟩ = some (.slice a1 xn.length c1) ∧ w'.cell? ⟨w.heap.size, 2, none⟩ = some (.slice a2 xd.length c2) ∧ w'.cell? ⟨w.heap.size + 1, 0, none⟩ = some (.bool cy) ∧ w'.cell? ⟨w.heap.size + 1, 1, none⟩ = some (.slice a3 yn.length c3) ∧ w'.cell? ⟨w.heap.size + 1, 2, none⟩ = some (.slice a4 yd.length c4)) := fun k => ⟨((g.trans (k.mono (by omega))).cell (p := ⟨p, 0, none⟩) hp).trans q0, ((g.trans (k.mono (by omega))).cell (p := ⟨p, 1, none⟩) hp).trans q1, ((g.trans (k.mono (by omega))).cell (p := ⟨p, 2, none⟩) hp).trans q2, ((g.trans (k.mono (by omega))).cell (p := ⟨p, 3, none⟩) hp).trans q3, (X.below k (by omega)).cell 0 rfl, (X.below k (by omega)).cell 1 rfl, (X.below k (by omega)).cell 2 rfl, (Y.below k (by omega)).cell 0 rfl, (Y.below k (by omega)).cell 1 rfl, (Y.below k (by omega)).cell 2 rfl⟩
 have H1 : Hid (Rd w.heap.size w (.slice a1 xn.length c1) xn) := h1
 have H2 : Hid (Rd w.heap.size w (.slice a2 xd.length c2) xd) := h2
 have H3 : Hid (Rd w.heap.size w (.slice a3 yn.length c3) yn) := h3
 have H4 : Hid (Rd w.heap.size w (.slice a4 yd.length c4) yd) := h4
 have HX : Hid (RightP bx xn xd) := rx
 have HY : Hid (RightP cy yn yd) := ry
 have HP : Hid (Kp p w0 w) := k0
 clear k1 k2 k3 k23 q0 q1 q2 q3 h1 h2 h3 h4 rx ry k0
 go_enter Tryz.func141, Tryz.ntmps141
 go_upto_region 1 with fail
 generalize hA : (((w.alloc (.cells #[.bool bx, .slice a1 xn.length c1, .slice a2 xd.length c2] 33)).alloc (.cells #[.bool cy, .slice a3 yn.length c3, .slice a4 yd.length c4] 33)).alloc (.cells #[.bool false, .slice none 0 0, .slice none 0 0] 33)) = v at *
 clear hA
 have d0 : Below v.heap.size v v.drew := ⟨rfl, rfl, rfl, Nat.le_refl _, fun _ _ => rfl⟩
 have j0 := HC.out d0
 have hgt : (kk < cc) = False := by simp [hk]
 obtain ⟨i0, i1, i2, i3, i4, i5, i6, i7, i8, i9⟩ := j0
 obtain ⟨v0, v1, v2, v3, v4, v5, v6, v7, v8, v9⟩ := HC.out (Below.refl _ v)
 first | go_region_with (fail) | fail
 all_goals
  clear i0 i1 i2 i3 i4 i5 i6 i7 i8 i9 v0 v1 v2 v3 v4 v5 v6 v7 v8 v9
  go_upto_region 3 with fail
  generalize hB : v.drew = w1 at *
  clear hB
  have kk1 := d0
  have d1 : Below v.heap.size v w1.drew := kk1.trans ⟨rfl, rfl, rfl, Nat.le_refl _, fun _ _ => rfl⟩
  obtain ⟨e0, e1, e2, e3, e4, e5, e6, e7, e8, e9⟩ := HC.out d1
  obtain ⟨e0', e1', e2', e3', e4', e5', e6', e7', e8', e9'⟩ := HC.out kk1
  have HRW : Hid (∀ {w' : World}, Below v.heap.size v w' → BoxA w' (w.heap.size + 1 + 1) 33 #[.bool false, .slice none 0 0, .slice none 0 0]) := fun k => R.below k (by omega)
  have s1 := kk1.size
  have s1' := d1.size
  have gd : Below w.heap.size w w1.drew := g.trans (d1.mono g.size)
  obtain ⟨er, hER⟩ : ∃ er, (d.op (numT bx xn xd) (numT cy yn yd)).1 = er := ⟨_, rfl⟩
  have K2 : Hid (Calls Tryz.prog kf (#[.agg #[.bool bx, .slice a1 xn.length c1, .slice a2 xd.length c2], .agg #[.bool cy, .slice a3 yn.length c3, .slice a4 yd.length c4]] ++ caps) w1.drew fun e w' => NumE w1.drew.heap.size er (fun b ns ds => er = 0 → numT b ns ds = (d.op (numT bx xn xd) (numT cy yn yd)).2) e w' ∧ Below w1.drew.heap.size w1.drew w') := by
   have := HD.out.call w1.drew (HP.out.trans (Kp.of_below gd)) bx cy a1 a2 a3 a4 xn xd yn yd c1 c2 c3 c4 HX.out HY.out ((H1.out.below gd).mono gd.size) ((H2.out.below gd).mono gd.size) ((H3.out.below gd).mono gd.size) ((H4.out.below gd).mono gd.size)
   unfold NumR5 at this; rw [hER] at this; exact this
  have HER : Hid ((d.op (numT bx xn xd) (numT cy yn yd)).1 = er) := hER
  clear hER
  first | go_region_with (go_simp; rw [HD.out.enter, Oper.upon_enter]; refine K2.out.mono ?_; rintro e w2 ⟨⟨b, z1, ns, u1, z2, ds, u2, rfl, ho1, ho2, hT⟩, q2⟩; have kk2 : Below v.heap.size v w2 := d1.trans (q2.mono d1.size); have R2 := HRW.out kk2; have r0 := R2.cell 0 rfl; have r1 := R2.cell 1 rfl; have r2 := R2.cell 2 rfl; have f0 := R2.frozen 0; have f1 := R2.frozen 1; have f2 := R2.frozen 2) | fail
  all_goals
   have R3 := ((R2.put 0 (.bool b)).put 1 (.slice z1 ns.length u1)).put 2 (.slice z2 ds.length u2)
   have y0 := R3.cell 0 rfl
   have y1 := R3.cell 1 rfl
   have y2 := R3.cell 2 rfl
   go_wp2
   refine bodyPost_ret (v := .tuple #[.agg #[.bool b, .slice z1 ns.length u1, .slice z2 ds.length u2], .int .i64 er]) (by simp [results, Tryz.results141, go_sem, y0, y1, y2]) rfl ?_
   exact ⟨numE_of HER.out ⟨b, z1, ns, u1, z2, ds, u2, rfl, (ho1.set3 (by omega) _ _ _).mono (by omega), (ho2.set3 (by omega) _ _ _).mono (by omega), hT⟩ (by rfl), Below.set3 (g.trans (kk2.mono g.size)) (by omega) _ _ _⟩
end
end Go.Proofs.YtmijanocljmaeaaGreat
