/- The document's half. -/
import Derived.Test.YtibciilhfpgjjaaDoorRef11
import Derived.Deep.RegionHeld3
namespace Go.Proofs.YtibciilhfpgjjaaDoor
set_option linter.unusedVariables false
set_option linter.unusedSimpArgs false
open Go.RowKit

/-- append onto a slice of the call's own, as one step of a region that draws. -/
theorem step_append_own {P : Program} {ops : Array Oper} {o : Oper} {a : Act} {w : World} {K : Act → World → Prop} {Q : Exit → Act → World → Prop} {E : Prop} (hg : o.guard = none) (s x : Operand) (t : TypeId)
    (ho : o.op = .call { callee := .builtin .append, args := #[s, x], argTypes := #[t, t] })
    (base : Nat) (e : TypeId) (i : TypeInfo) (z : Value) (size bytes : Nat) (ht : P.underlying t = some (.slice e)) (hi : P.info? e = some i) (hz : i.zero = some z)
    (hsize : i.size = size) (hby : i.bytes = bytes) (hzs : z.cells.size = size) (hsz : 0 < size)
    (v : Value) (n : Nat) (xs : List Value) (hs : a.eval s = v) (hown : w.ownsRow base e size v n xs)
    (ad : Addr) (m c : Nat) (news : List Value) (hx : a.eval x = .slice (some ad) m c) (hl : news.length = m * size) (hnews : ∀ j u, news[j]? = some u → w.cell? (ad.add j) = some u) (h1 : ∀ u ∈ news, u.oneCell' = true)
    (h63 : n + m ≤ maxLen) (hbytes : (n + m) * bytes ≤ 140737488355328) (hbase : base ≤ w.heap.size)
    (hK : ∀ v' w', w'.ownsRow base e size v' (n + m) (xs ++ news) → w.grownBy w' v.ownBlock → K (a.put o.dst v') w') :
    if Region.wanted o (yielded ops a.tmps) = true then Oper.wp P o a w K Q else E := by
  rw [if_pos (by simp [Region.wanted, hg])]
  exact wp_append_own w s x t ho base e i z size bytes ht hi hz hsize hby hzs hsz v n xs hs hown ad m c news hx hl hnews h1 h63 hbytes hbase fun v' w' h2 h3 _ => hK v' w' h2 h3

set_option maxRecDepth 100000 in
set_option maxHeartbeats 16000000 in
/-- The document's half: a number by 2. -/
theorem refHalf_any {B : Nat} {w : World} {v : Value} {xs : List Int} (h : Rd B w v xs) (hB : B ≤ w.heap.size) (hn : xs.length ≤ 1000000000) :
    Calls Tryd.prog 76 #[v] w fun e w' => ∃ zs, can zs ∧ val zs = val xs / 2 ∧ Makes w e w' zs := by
  obtain ⟨i0, hi, hz0, hz1, hz2⟩ := info_parts info_u32
  have lx := h.lim
  have hh := h
  obtain ⟨_, a1, c1, rfl, hcap0, hcap, _, kp⟩ := h
  go_enter Tryd.func76, Tryd.ntmps76
  go_wp2
  go_loopw [3, 4] (fun s ii wr => ∃ (i : Nat) (us : List Int) (a : Option Addr) (c : Nat), i ≤ xs.length ∧ ii = .int .i64 i ∧ Hid (us.length = i) ∧ s = .slice a us.length c ∧ Own w.heap.size wr (.slice a us.length c) us ∧ Below w.heap.size w wr ∧ Hid (2 * val us + xs.getD 0 0 % 2 = val (xs.take i) + xs.getD i 0 % 2 * pw i))
    (fun _ ii _ => xs.length - (intOf ii).toNat)
  case atStart => exact ⟨0, [], none, 0, by omega, rfl, rfl, rfl, own_nil _ _, Below.refl _ _, by unfold Hid; simp [val, pw_zero]⟩
  case round =>
    obtain ⟨i, us, a, c, hiM, rfl, hul, rfl, hown, hbl, hval⟩ := hrel
    have hs := hbl.size
    have huL : us.length = i := hul.out
    have HUL : us.length ≤ 2000000000 := by omega
    clear huL
    by_cases hgo : i < xs.length
    · rcases kp with kp | ⟨b, o, rfl, hbB, kp⟩
      · omega
      have rx := lim_getD lx i
      have ry := lim_getD lx (i + 1)
      have hc : wr.cell? ⟨b, o + i, none⟩ = some (.int .u32 (xs.getD i 0)) := (hbl.cell (by show b < w.heap.size; omega)).trans (kp i hgo)
      have rr := hh.below (hbl.mono hB)
      have rrd : Rd B wr.drew (.slice (some ⟨b, o, none⟩) xs.length c1) xs := rr
      have k1 := limb_rd rrd (i + 1)
      clear rr rrd
      rw [show (((i + 1 : Nat)) : Int) = (i : Int) + 1 by omega] at k1
      have hstep := half_step us xs i (xs.getD i 0 / 2 + xs.getD (i + 1) 0 % 2 * 2147483648) _ hul.out hgo hval.out (by omega)
      have hor := or_high (xs.getD i 0) (xs.getD (i + 1) 0 % 2) rx (by omega)
      have hand := and_one_u64 (xs.getD (i + 1) 0) ry.1 ry.2
      have HST : Hid (2 * val (us ++ [xs.getD i 0 / 2 + xs.getD (i + 1) 0 % 2 * 2147483648]) + xs.getD 0 0 % 2 = val (xs.take (i + 1)) + xs.getD (i + 1) 0 % 2 * pw (i + 1)) := hstep
      clear hstep kp
      generalize hX : xs.getD i 0 = X at *
      generalize hY : xs.getD (i + 1) 0 = Y at *
      have hwr : IntKind.i64.wrap ((i : Int) + 1) = (i : Int) + 1 := by rw [IntKind.wrap_i64]; omega
      have hw1 : IntKind.u32.wrap (Y % 2) = Y % 2 := by rw [IntKind.wrap_u32]; omega
      have hw2 : IntKind.u32.wrap (Y % 2 * 2147483648) = Y % 2 * 2147483648 := by rw [IntKind.wrap_u32]; omega
      have hbd : Below w.heap.size w wr.drew := ⟨hbl.os, hbl.tape, hbl.output, hbl.size, hbl.block⟩
      have hcw : w.cell? ⟨b, o + i, none⟩ = some (.int .u32 X) := by rw [← hc]; exact (hbl.cell (p := ⟨b, o + i, none⟩) (by show b < w.heap.size; omega)).symm
      have hcd : wr.drew.cell? ⟨b, o + i, none⟩ = some (.int .u32 X) := hc
      go_wp2
      go_region_held3 (fun w' => w'.cell? ⟨b, o + i, none⟩ = some (.int .u32 X))
        (first | go_keep | exact hc2)
        (first
          | (go_at_call 48; refine k1.mono ?_; rintro e w' ⟨rfl, rfl⟩)
          | (refine step_append_own rfl _ _ 22 rfl w.heap.size 39 i0 (.int .u32 0) 1 4 Tryd.underlying22 hi hz0 hz1 hz2 rfl (by decide) _ us.length (us.map (Value.int .u32)) rfl (hown.drew.2.alloc _) ⟨wr.heap.size, 0, none⟩ 1 1 [_] rfl rfl (cell1_new wr.drew _ _) (by intro u hu; simp at hu; subst hu; rfl) (by unfold maxLen; omega) (by omega) (by simp; omega) ?_; intro v' w2 hown' hgrow; have hb2 : Below w.heap.size w w2 := (hbd.alloc hs _).grown hgrow (by simp; omega) (fun k hk => (hown.2.lt k hk).1); have hc2 : w2.cell? ⟨b, o + i, none⟩ = some (.int .u32 X) := by rw [← hcw]; exact hb2.cell (by show b < w.heap.size; omega)))
      have hO := own_push hown.lim (by omega) hown'
      obtain ⟨a3, c3, hv3⟩ := hO.form
      rw [hv3] at hO ⊢
      clear hown' hgrow hv3 hown hor hand
      go_wp2
      go_roundw
      case rel => exact ⟨i + 1, us ++ [X / 2 + Y % 2 * 2147483648], a3, c3, by omega, by go_num, (by unfold Hid; rw [List.length_append, hul.out]; rfl), rfl, hO, hb2, (by rw [hY]; exact HST)⟩
      case measure => simp [intOf]; omega
    · obtain rfl : i = xs.length := by omega
      have hfin := half_end us xs hval.out
      have HF : Hid (val us = val xs / 2) := hfin
      have hlen : us.length * 4 ≤ 140737488355328 := by omega
      clear hfin kp
      go_wp2_with fail
      refine (refTrim_rd hown.rd hlen).mono ?_
      rintro e w3 ⟨a3, c3, rfl, ho3, hb3⟩
      go_wp2
      go_ret
      exact ⟨tr us, tr_can hown.lim, by rw [val_tr]; exact HF.out, Makes.of rfl (ho3.mono hs) (hbl.trans (hb3.mono hs))⟩
end Go.Proofs.YtibciilhfpgjjaaDoor
