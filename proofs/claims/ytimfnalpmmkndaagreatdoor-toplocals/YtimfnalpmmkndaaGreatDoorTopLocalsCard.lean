/- Proved: whatever lines and array are handed in, TopLocals answers true: what a function localises has nothing behind a Push of its names, and is a variable, or nothing, behind the Pop; the function's own name is it then; the lines and the array read as before; the two tables of characters start as the program's text lays them (the card ties them). No other condition. -/
import Derived.Test.YtimfnalpmmkndaaGreatDoorFS
import Derived.Test.YtimfnalpmmkndaaGreatDoorFA
import Derived.Test.YtimfnalpmmkndaaGreatDoorWX
namespace Go.Proofs.YtimfnalpmmkndaaGreatDoor.topLocals
set_option linter.unusedVariables false
set_option linter.unusedSimpArgs false
open Go.ChangeShapes Go.WideShapes Go.ChangeAt Go.RowKit

theorem arV_lens {f : Nat} {D : Nat → Prop} {w : World} {x1 x2 : Option Addr} {n1 n2 c1 c2 : Nat} {t : Tr} (h : ArV (f + 1) D w (.slice x1 n1 c1) (.slice x2 n2 c2) t) : n1 = t.ns.length ∧ n2 = t.kids.length := by
 obtain ⟨⟨_, a, cap, hv, _⟩, a2, cap2, hv2, _⟩ := h
 exact ⟨(Value.slice.inj hv).2.1, (Value.slice.inj hv2).2.1⟩
set_option maxRecDepth 100000 in
theorem contract (H : Type) (enc : TypeId × Value → H) (W : World) (base : Nat) (args : Array Value) (ds gs : List (DataW H)) (before : List MemPlace)
    (hval : ∀ (j : Nat) t v, Tryz.f7.params[j]? = some t → args[j]? = some v → Value.okWide Tryz.prog W .any base t v)
    (hW : DataW.Whole enc Tryz.prog Tryz.f7.params.toList Rows.topLocalsSpec.vars false W args.toList ds gs before) (hL : laidMetH Tryz.prog Rows.topLocalsRow.laid W) :
    Calls Tryz.prog 7 args W fun e W' => ∃ v, e = .returned v ∧ Rows.topLocalsSpec.post enc Tryz.prog Tryz.f7 false true false false W args v W' := by
 have hW' := hW
 obtain ⟨p, q, hA0, hV, rfl, hfz, hnd⟩ := hW
 have hA : DataW.TrodAll enc Tryz.prog W 0 (fun _ => true) true Tryz.f7.params.toList args.toList ds p := hA0
 rw [Tryz.params7] at hA hval
 obtain ⟨v0, v1, d0, d1, p0, p1, rfl, rfl, rfl, h0, h1⟩ := trodAll_two hA
 obtain ⟨rfl, rfl⟩ := trodVars_none hV
 clear hA0
 simp only [List.append_nil] at hW'
 obtain ⟨a, ss, c, rfl, r0, hsz⟩ := strs_rd (hval 0 25 v0 rfl rfl) h0
 obtain ⟨F, x1, n1, c1, x2, n2, c2, t, rfl, hv, _⟩ := arr_rd (hval 1 29 v1 rfl rfl) h1
 have hv' := ArV.imp (fun _ h => h) (fun _ _ => rfl) F (F + 1) _ _ _ (Nat.le_add_right F 1) hv
 obtain ⟨rfl, rfl⟩ := arV_lens hv'
 have hlt : ∀ x ∈ p0 ++ p1, x.block < W.heap.size := fun x hx => by simpa using hW'.lt x (by simpa using hx)
 refine (topLocals_any r0 (Nat.le_refl _) hsz hv' (fun g h => h)).mono fun e W' ⟨he, hnx⟩ => ?_
 subst he
 refine ⟨_, rfl, _, _, _, [], p0 ++ p1, [], hW', ?_, ?_, rfl, hnx.frame _, fun h => by cases h⟩
 · exact trodAll_mk1 (shut_bool Tryz.underlying4 _)
 · exact trodAll_mk2 (Below.trod laidOut (by kernel_rfl) (of_decide_eq_true (by kernel_rfl)) h0 hnx (fun x hx => hlt x (by simp [hx]))) (Below.trod laidOut (by kernel_rfl) (of_decide_eq_true (by kernel_rfl)) h1 hnx (fun x hx => hlt x (by simp [hx])))

theorem reads (os : Os) {H : Type} (enc : TypeId × Value → H) : ∃ places, DataW.whole enc Tryz.prog ((relaid2 (World.holding Tryz.prog os ⟨#[], #[], []⟩)).forCall (fun _ _ => 0) ⟨#[], #[.slice none 0 0, .agg #[.slice none 0 0, .slice none 0 0]], []⟩).memory Tryz.f7.params.toList Rows.topLocalsSpec.vars false #[Value.slice none 0 0, .agg #[.slice none 0 0, .slice none 0 0]].toList 8 = some ([.nil, .agg [.nil, .nil]], [], places) :=
 ⟨[], by kernel_rfl⟩

set_option maxRecDepth 100000 in
theorem lifted (os : Os) (started : os.Started) (H : Type) (enc : TypeId × Value → H) (F : Stop.Interp) :
    ReturnsInHanded {} Tryz.checked os 7 .any ((OpenSpec.ofChange Rows.topLocalsSpec).preRow enc Tryz.prog Tryz.f7 Rows.topLocalsRow.domain false Rows.topLocalsRow.laid) (((OpenSpec.ofChange Rows.topLocalsSpec).at F).post enc Tryz.prog Tryz.f7 false true false false) := by
 obtain ⟨places, hx⟩ := reads os enc
 refine returnsInHanded_of_row (C := Tryz.checked) (s := OpenSpec.ofChange Rows.topLocalsSpec) own started (by kernel_rfl) Tryz.func7
  (witness_row_at (enc := enc) (C := Tryz.checked) false (relaid2 (World.holding Tryz.prog os ⟨#[], #[], []⟩)) #[.slice none 0 0, .agg #[.slice none 0 0, .slice none 0 0]] rfl (by kernel_rfl) (by kernel_rfl) (by kernel_rfl)
   (OpenSpec.preRow_of_cond 8 hx (by kernel_rfl) (fun k hk => by cases hk) (by kernel_rfl) (laid_met os _))) ?_
 intro W base args ds gs before hval hW _ _ hsz hL _ _
 exact contract H enc W base args ds gs before hval hW hL

theorem said : Rows.TopLocalsSaid :=
 OpenClaim.holds_of_cond 7 Tryz.f7 rfl rfl rfl rfl rfl rfl rfl ⟨rfl, rfl, rfl, rfl, rfl⟩ rfl rfl rfl rfl rfl (by kernel_rfl) Tryz.func7 (by kernel_rfl)
  (of_decide_eq_true (by kernel_rfl)) (by unfold Func.isWrapper; first | (rw [if_pos (by decide +kernel)]; kernel_rfl) | (rw [if_neg (by decide +kernel)]; exact ⟨rfl, rfl⟩))
  (fun os started H enc _ F => by rw [OpenClaim.pre_eq_preRow]; exact lifted os started H enc F)

theorem plain (f : FuncId) (fn : Func) (hf : Tryz.pinned.checked.prog.funcNamed "glyph/glyphtop.TopLocals" = some f) (hfn : Tryz.pinned.checked.prog.funcs[f]? = some fn) :
    false = Tryz.pinned.checked.prog.looks [] ∧ ∀ (j : Nat) t, fn.params[j]? = some t → Tryz.pinned.checked.prog.wantsStandIn t = false := by
 obtain rfl : f = 7 := Option.some.inj ((show Tryz.prog.funcNamed "glyph/glyphtop.TopLocals" = some 7 by kernel_rfl).symm.trans hf) |>.symm
 obtain rfl : fn = Tryz.f7 := (Option.some.inj (Tryz.func7.symm.trans hfn)).symm
 refine ⟨by kernel_rfl, fun j t ht => ?_⟩
 rw [Tryz.params7] at ht
 have hm : t = 25 ∨ t = 29 := by simpa using Array.mem_of_getElem? ht
 rcases hm with rfl | rfl
 · exact (show Tryz.prog.wantsStandIn 25 = false by kernel_rfl)
 · exact (show Tryz.prog.wantsStandIn 29 = false by kernel_rfl)

theorem card : Rows.TopLocalsCardSaid :=
 Claim7.holds_tied_plain_at .later [] _ _ _ _ said (fun _ h => by cases h) (by kernel_rfl) (fun _ h => by cases h) topLocals_row_tie rfl ⟨rfl, rfl⟩ (by kernel_rfl) rfl plain (by kernel_rfl)
end Go.Proofs.YtimfnalpmmkndaaGreatDoor.topLocals
namespace Go.Proofs.YtimfnalpmmkndaaGreatDoor
theorem topLocals_card : Rows.TopLocalsCardSaid := topLocals.card
end Go.Proofs.YtimfnalpmmkndaaGreatDoor
