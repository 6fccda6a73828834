/- The characters of a number's text. -/
import Derived.Test.YtimfnalpmmkndaaGreatDoorL1
import Derived.Test.YtimfnalpmmkndaaGreatDoorKX
import Derived.Shelf.Abstract
import Derived.Shelf.RegionOpen
import Derived.OwnWalkIn
import Derived.TacticsInMore
import Derived.LoopNIn
import Derived.LoopIn
import Derived.Maps.AppendAt
namespace Go.Proofs.YtimfnalpmmkndaaGreatDoor
set_option linter.unusedVariables false
set_option linter.unusedSimpArgs false
open Go.RowKit

theorem runesBytes_from (ns : List Int) : ∀ s : ByteArray, ns.foldl (fun r n => r ++ Utf8.encode n) s = s ++ runesBytes ns := by
 induction ns with
 | nil => intro s; simp [runesBytes]
 | cons n ns ih =>
  intro s
  have e : runesBytes (n :: ns) = (ByteArray.empty ++ Utf8.encode n) ++ runesBytes ns := by
   rw [runesBytes, List.foldl_cons, ih]
  rw [List.foldl_cons, ih, e]
  simp [ByteArray.append_assoc]
theorem runesBytes_cons (n : Int) (ns : List Int) : (runesBytes (n :: ns)).data.toList = (Utf8.encode n).data.toList ++ (runesBytes ns).data.toList := by
 rw [runesBytes, List.foldl_cons, runesBytes_from]
 simp
end Go.Proofs.YtimfnalpmmkndaaGreatDoor

/- lex.tokens at a number's text: what its iterator tells. -/
namespace Go.Proofs.YtimfnalpmmkndaaGreatDoor
set_option linter.unusedVariables false
set_option linter.unusedSimpArgs false
open Go.RowKit Go.Shelf

attribute [local go_sem] Oper.semAt_some

theorem passed_zero {B : Nat} {w : World} {v : Value} {cs : List Int} (h : RdR B w v cs) : Calls Tryz.prog 157 #[v, .int .i64 0] w fun e w' => e = .returned (.int .i64 ((passTo cs 0 : Nat) : Int)) ∧ w' = w := passed_any h 0 (Nat.zero_le _)

end Go.Proofs.YtimfnalpmmkndaaGreatDoor

/- lex.All at a number's text. -/
namespace Go.Proofs.YtimfnalpmmkndaaGreatDoor
set_option linter.unusedVariables false
set_option linter.unusedSimpArgs false
open Go.RowKit Go.Shelf

attribute [local go_sem] Oper.semAt_some

theorem info_tok : (Tryz.prog.info? 151).map (fun i => (i.zero, i.size, i.bytes)) = some (some (.agg #[.int .u8 0, .string ⟨#[]⟩, .int .i64 0, .slice none 0 0, .slice none 0 0]), 5, 80) := by kernel_rfl
theorem tokens_any (a : Option Addr) (n c : Nat) (w : World) : Calls Tryz.prog 117 #[.slice a n c] w fun e w' => e = .returned (.func (.func 156) #[] #[.pointer (some ⟨w.heap.size, 0, none⟩)]) ∧ w' = w.alloc (.cells #[.slice a n c] 116) := by
 go_enter Tryz.func117, Tryz.ntmps117
 go_wp2
 go_ret
 exact ⟨rfl, rfl⟩

def tyOf : Obj → Option TypeId | .cells _ t _ => some t | _ => none
theorem BoxA.grown {W W' : World} {B ty : Nat} {xs : Array Value} {row : Option Nat} (h : BoxA W B ty xs) (hg : W.grownBy W' row) (hr : row ≠ some B) : BoxA W' B ty xs := by
 have hlt := h.lt
 unfold BoxA at h ⊢
 rw [hg.block B hlt (fun e => hr e.symm)]; exact h

theorem BoxA.put1 {W : World} {B ty : Nat} {u : Value} (h : BoxA W B ty #[u]) (v : Value) : BoxA (W.setCell ⟨B, 0, none⟩ v) B ty #[v] := by
 unfold BoxA at h ⊢
 simp [World.setCell, Array.getElem?_modify, h]
theorem row_ty {W : World} {base e size n : Nat} {v : Value} {xs : List Value} (h : W.ownsRow base e size v n xs) : ∀ j, v.ownBlock = some j → ∃ o, W.heap[j]? = some o ∧ tyOf o = some e ∧ o.isCells = true := by
 intro j hj
 obtain ⟨_, h | ⟨g, cap, cur, rfl, _, hh, _⟩⟩ := h
 · rw [h.1] at hj; cases hj
 · cases hj
   exact ⟨_, hh, rfl, rfl⟩
theorem row_form {W : World} {base e size n : Nat} {v : Value} {xs : List Value} (h : W.ownsRow base e size v (n + 1) xs) : ∃ g cap, v = .slice (some ⟨g, 0, none⟩) (n + 1) cap := by
 obtain ⟨_, h | ⟨g, cap, cur, rfl, _⟩⟩ := h
 · omega
 · exact ⟨g, cap, rfl⟩

end Go.Proofs.YtimfnalpmmkndaaGreatDoor

/- array.Text: the characters of a text, as an iterator tells them. -/
namespace Go.Proofs.YtimfnalpmmkndaaGreatDoor
set_option linter.unusedVariables false
set_option linter.unusedSimpArgs false
open Go.RowKit Go.Shelf

attribute [local go_sem] Oper.semAt_some

def chCells (c : Int) : List Value := [.int .u8 2, .bool false, .slice none 0 0, .slice none 0 0, .int .i32 c, .slice none 0 0]
def chEncs (c : Int) : Array Value := #[.agg #[.int .u8 2, .bool false, .slice none 0 0, .slice none 0 0, .int .i32 c, .slice none 0 0]]
structure KeepC (n₀ : Nat) (W W' : World) : Prop where
 below : Below n₀ W W'
 others : KeepsWalks W W'
theorem KeepC.trans {n₀ : Nat} {A B C : World} (h : KeepC n₀ A B) (k : KeepC n₀ B C) : KeepC n₀ A C := ⟨h.below.trans k.below, h.others.trans k.others⟩

set_option maxRecDepth 100000 in
theorem character_any (c : Int) (w : World) : Calls Tryz.prog 178 #[.int .i32 c] w fun e w' => e = .returned (.agg #[.int .u8 2, .bool false, .slice none 0 0, .slice none 0 0, .int .i32 c, .slice none 0 0]) ∧ w' = w.alloc (.cells #[.int .u8 2, .bool false, .slice none 0 0, .slice none 0 0, .int .i32 c, .slice none 0 0] 113) := by
 have R := boxA_new w #[.int .u8 2, .bool false, .slice none 0 0, .slice none 0 0, .int .i32 c, .slice none 0 0] 113
 go_enter Tryz.func178, Tryz.ntmps178
 go_wp2
 have r0 := R.cell 0 rfl
 have r1 := R.cell 1 rfl
 have r2 := R.cell 2 rfl
 have r3 := R.cell 3 rfl
 have r4 := R.cell 4 rfl
 have r5 := R.cell 5 rfl
 refine bodyPost_ret (v := .agg #[.int .u8 2, .bool false, .slice none 0 0, .slice none 0 0, .int .i32 c, .slice none 0 0]) (by simp [results, Tryz.results178, go_sem, r0, r1, r2, r3, r4, r5]) rfl ?_
 exact ⟨rfl, rfl⟩

set_option maxRecDepth 100000 in
set_option maxHeartbeats 6400000 in
theorem chars_pays {w : World} {s : ByteArray} {Bn n₀ : Nat} (n : Nat) (hn : 2 ≤ n) (hs : s.size ≤ 9223372036854775807) (hn₀ : Bn < n₀) (hnw : n₀ ≤ w.heap.size) (hBn : BoxA w Bn 9 #[.string s]) :
    PaysX Fence.wide n Tryz.prog 248 #[.pointer (some ⟨Bn, 0, none⟩)] chEncs (KeepC n₀) (fun _ _ _ => True) (fun xs _ => xs = decs s s.size 0) (fun xs => xs <+: decs s s.size 0) w := by
 intro l J Jx W hW hJ hJx hY hJ0
 have hBW := hBn.below hW hBn.lt
 have hsW := hW.size
 have c0 := hBW.cell 0 rfl
 refine callsIn_of_wp Tryz.func248 rfl trivial ?_ rfl
 simp only [Tryz.ntmps248, List.size_toArray, List.length_cons, List.length_nil, Nat.reduceAdd, Nat.reduceSub, Array.replicate_succ, Array.replicate_zero, List.push_toArray, List.append_toArray, List.nil_append, List.cons_append]
 gi_wp2
 clear c0
 gi_loopw [] (fun wr => ∃ (pos fuel : Nat) (pre : List Int), J pre wr ∧ wr.heap[W.heap.size]? = some (.stringIter s pos) ∧ Hid (pre ++ decs s fuel pos = decs s s.size 0) ∧ s.size ≤ pos + fuel ∧ pos ≤ s.size) (fun wr => s.size - wr.iterPos W.heap.size)
 case atStart =>
  refine ⟨0, s.size, [], hJ [] W _ none hJ0 (World.grownBy_alloc W _ none) (fun r e => by cases e), World.iter_heap W s 0, rfl, by omega, by omega⟩
 case round =>
  obtain ⟨pos, fuel, pre, hJs, hit, HD, hf, hps⟩ := hrel
  have hsz : W.heap.size < wr.heap.size := (Array.getElem?_eq_some_iff.1 hit).1
  by_cases hp : pos < s.size
  · have hnx : ∀ ty, (Instr.next (.pointer (some ⟨W.heap.size, 0, none⟩)) true ty).run Tryz.prog wr = _ := fun ty => Lib.run_next_any_at wr W.heap.size s pos ty hit hp
    have hwd := Lib.decode_width_pos s pos hp
    have hwe := dec_end s pos hp
    obtain ⟨f, rfl⟩ : ∃ f, fuel = f + 1 := ⟨fuel - 1, by omega⟩
    have HS : Hid (decs s (f + 1) pos = ((Utf8.decode s pos).1 : Int) :: decs s f (pos + (Utf8.decode s pos).2)) := by
     unfold Hid
     rw [decs, if_pos hp]
    have hit2 := Lib.iterAt_heap wr W.heap.size s pos (pos + (Utf8.decode s pos).2) hit
    have hg2 : wr.grownBy (wr.iterAt W.heap.size s (pos + (Utf8.decode s pos).2)) (some W.heap.size) := by
     have hbI := Lib.below_iterAt (Below.refl W.heap.size wr) (k := W.heap.size) (Nat.le_refl _) s (pos + (Utf8.decode s pos).2)
     exact ⟨hbI.os, hbI.tape, hbI.output, hbI.size, fun k _ hne => Lib.iterAt_other _ _ _ _ _ (fun e => hne (by rw [e]))⟩
    have hJ2 := hJ pre wr _ _ hJs hg2 (fun r e => by cases e; exact ⟨Nat.le_refl _, _, hit, rfl⟩)
    have HQ : Hid (wr.iterPos W.heap.size = pos) := by unfold Hid; simp only [World.iterPos, hit]
    generalize (Utf8.decode s pos).2 = m at *
    generalize (Utf8.decode s pos).1 = C at *
    generalize wr.iterAt W.heap.size s (pos + m) = W2 at *
    have hsz2 : W.heap.size < W2.heap.size := (Array.getElem?_eq_some_iff.1 hit2).1
    clear hg2 hJs
    gi_wp2_with fail
    refine ⟨trivial, fun _ => by omega, ?_⟩
    refine (callsIn_wide.2 (character_any C _)).mono ?_
    rintro e w3 ⟨rfl, rfl⟩
    have kx := below_alloc W2 (.cells #[.int .u8 2, .bool false, .slice none 0 0, .slice none 0 0, .int .i32 C, .slice none 0 0] 113)
    have hit3 := (kx.block W.heap.size hsz2).trans hit2
    have hJ3 := hJ pre W2 _ none hJ2 (World.grownBy_alloc W2 (.cells #[.int .u8 2, .bool false, .slice none 0 0, .slice none 0 0, .int .i32 C, .slice none 0 0] 113) none) (fun r e => by cases e)
    obtain ⟨fn, tmps, assign, body, hy, hRd⟩ := hY pre C _ hJ3 trivial
    dsimp only [chEncs] at hy
    gi_wp2
    refine ⟨fun _ => by omega, hRd.mono ?_⟩
    rintro e W4 (⟨rfl, hJ4, hk4⟩ | ⟨rfl, hJ4⟩)
    · have hit4 := hk4.others.same _ _ hit3 rfl
      gi_wp2
      go_roundw
      case rel => exact ⟨pos + m, f, pre ++ [(C : Int)], hJ4, hit4, (by unfold Hid; rw [List.append_assoc, List.singleton_append, ← HS.out]; exact HD.out), by omega, by omega⟩
      case measure =>
       rw [HQ.out]
       simp only [World.iterPos, hit4]
       omega
    · gi_wp2
      refine bodyPost_ret (results_none rfl _ _ _) rfl ?_
      exact ⟨⟨_, rfl⟩, Or.inr ⟨_, ⟨decs s f (pos + m), (by rw [List.append_assoc, List.singleton_append, ← HS.out]; exact HD.out)⟩, hJ4⟩⟩
  · have hnx : ∀ ty, (Instr.next (.pointer (some ⟨W.heap.size, 0, none⟩)) true ty).run Tryz.prog wr = _ := fun ty => Lib.run_next_end_at wr W.heap.size s pos ty hit hp
    have HE : Hid (pre = decs s s.size 0) := by
     unfold Hid
     rw [← HD.out]
     cases fuel with
     | zero => simp [decs]
     | succ f => simp [decs, hp]
    gi_wp2
    go_end0
    exact ⟨⟨_, rfl⟩, Or.inl ⟨pre, HE.out, hJs⟩⟩
end Go.Proofs.YtimfnalpmmkndaaGreatDoor

/- array.vector over the characters of a text. -/
namespace Go.Proofs.YtimfnalpmmkndaaGreatDoor
set_option linter.unusedVariables false
set_option linter.unusedSimpArgs false
open Go.RowKit Go.Shelf

attribute [local go_sem] Oper.semAt_some

theorem info_item : (Tryz.prog.info? 113).map (fun i => (i.zero, i.size, i.bytes)) = some (some (.agg #[.int .u8 0, .bool false, .slice none 0 0, .slice none 0 0, .int .i32 0, .slice none 0 0]), 6, 96) := by kernel_rfl
theorem row_form2 {W : World} {base e size n : Nat} {v : Value} {xs : List Value} (h : W.ownsRow base e size v n xs) : ∃ a cap, v = .slice a n cap := by
 obtain ⟨_, h | ⟨g, cap, cur, rfl, _⟩⟩ := h
 · obtain ⟨rfl, rfl, _⟩ := h; exact ⟨_, _, rfl⟩
 · exact ⟨_, cap, rfl⟩
theorem row_mono {W : World} {base base' e size n : Nat} {v : Value} {xs : List Value} (h : W.ownsRow base e size v n xs) (hb : base' ≤ base) : W.ownsRow base' e size v n xs := by
 obtain ⟨h1, h | ⟨g, cap, cur, h2, h3, h4⟩⟩ := h
 · exact ⟨h1, .inl h⟩
 · exact ⟨h1, .inr ⟨g, cap, cur, h2, Nat.le_trans hb h3, h4⟩⟩
theorem keepC_put {n₀ B0 : Nat} (h1 : n₀ ≤ B0) (W : World) (l : Nat) (o o' : Obj) (hl : B0 ≤ l) (ho : W.heap[l]? = some o) (hw : o.isWalk = false) : KeepC n₀ W (W.putObj l o') :=
 ⟨(Below.refl _ W).grown (grownBy_putObj' W l o') (by have := (Array.getElem?_eq_some_iff.1 ho).1; omega) (fun k e => by cases e; omega), KeepsWalks.putObj _ ho hw⟩
theorem row_grown {A B W0 : World} {R ty e size n Z : Nat} {v : Value} {xs : List Value} {row : Option Nat} (b1 : BoxA A R ty #[v]) (b2 : A.ownsRow Z e size v n xs) (b3 : Below R W0 A) (hg : A.grownBy B row) (hR : R < Z) (hrow : ∀ k, row = some k → Z ≤ k ∧ ∃ o : Obj, A.heap[k]? = some o ∧ o.isCells = false) :
    BoxA B R ty #[v] ∧ B.ownsRow Z e size v n xs ∧ Below R W0 B := by
 have hne : row ≠ some R := fun e => by have := (hrow _ e).1; omega
 refine ⟨b1.grown hg hne, b2.kept hg ?_, b3.grown hg (by have := b1.lt; omega) (fun k e => by have := (hrow k e).1; omega)⟩
 by_cases hv : v.ownBlock = none
 · exact Or.inl hv
 · refine Or.inr (fun e => ?_)
   obtain ⟨_, h | ⟨g, cap, cur, rfl, _, hh, _⟩⟩ := b2
   · rw [h.1] at hv; exact hv rfl
   · obtain ⟨_, o, ho, hc⟩ := hrow g e.symm
     rw [hh] at ho
     cases ho
     cases hc
set_option maxRecDepth 100000 in
set_option maxHeartbeats 6400000 in
theorem vector_chars {w : World} {s : ByteArray} {Bn : Nat} (hs : s.size ≤ 9223372036854775807) (hBw : Bn < w.heap.size) (hBn : BoxA w Bn 9 #[.string s]) :
    Calls Tryz.prog 236 #[.agg #[.int .u8 2, .bool false, .slice none 0 0, .slice none 0 0, .int .i32 32, .slice none 0 0], .func (.func 248) #[] #[.pointer (some ⟨Bn, 0, none⟩)]] w fun e w' => ∃ g1 v2, e = .returned (.agg #[.slice (some ⟨g1, 0, none⟩) 1 1, v2]) ∧ w.heap.size ≤ g1 ∧ BoxA w' g1 3 #[.int .i64 ((((decs s s.size 0).take 4096).length : Nat) : Int)] ∧
     (((decs s s.size 0).take 4096 = [] ∧ ∃ g2, v2 = .slice (some ⟨g2, 0, none⟩) 1 1 ∧ w.heap.size ≤ g2 ∧ BoxA w' g2 113 #[.int .u8 2, .bool false, .slice none 0 0, .slice none 0 0, .int .i32 32, .slice none 0 0]) ∨
      ((decs s s.size 0).take 4096 ≠ [] ∧ w'.ownsRow w.heap.size 113 6 v2 ((decs s s.size 0).take 4096).length (((decs s s.size 0).take 4096).flatMap chCells))) ∧ Below w.heap.size w w' := by
 have g1 := below_alloc w (.cells #[.int .u8 2, .bool false, .slice none 0 0, .slice none 0 0, .int .i32 32, .slice none 0 0] 113)
 have g2 := below_alloc (w.alloc (.cells #[.int .u8 2, .bool false, .slice none 0 0, .slice none 0 0, .int .i32 32, .slice none 0 0] 113)) (.cells #[.slice none 0 0, .slice none 0 0] 29)
 have g3 := below_alloc ((w.alloc (.cells #[.int .u8 2, .bool false, .slice none 0 0, .slice none 0 0, .int .i32 32, .slice none 0 0] 113)).alloc (.cells #[.slice none 0 0, .slice none 0 0] 29)) (.cells #[.slice none 0 0] 27)
 have RP := ((boxA_new w #[.int .u8 2, .bool false, .slice none 0 0, .slice none 0 0, .int .i32 32, .slice none 0 0] 113).below g2 (by simp)).below g3 (by simp; omega)
 have RA := (boxA_new (w.alloc (.cells #[.int .u8 2, .bool false, .slice none 0 0, .slice none 0 0, .int .i32 32, .slice none 0 0] 113)) #[.slice none 0 0, .slice none 0 0] 29).below g3 (by simp)
 have RL := boxA_new ((w.alloc (.cells #[.int .u8 2, .bool false, .slice none 0 0, .slice none 0 0, .int .i32 32, .slice none 0 0] 113)).alloc (.cells #[.slice none 0 0, .slice none 0 0] 29)) #[.slice none 0 0] 27
 rw [World.size_alloc] at RA
 rw [World.size_alloc, World.size_alloc] at RL
 have g : Below w.heap.size w _ := g1.trans ((g2.mono g1.size).trans (g3.mono (by simp; omega)))
 have sW : (((w.alloc (.cells #[.int .u8 2, .bool false, .slice none 0 0, .slice none 0 0, .int .i32 32, .slice none 0 0] 113)).alloc (.cells #[.slice none 0 0, .slice none 0 0] 29)).alloc (.cells #[.slice none 0 0] 27)).heap.size = w.heap.size + 1 + 1 + 1 := by simp
 clear g1 g2 g3
 refine (callsIn_wide (n := 6)).1 ?_
 refine callsIn_of_wp_marks Tryz.func236 rfl trivial ?_ rfl
 simp only [Tryz.ntmps236, List.size_toArray, List.length_cons, List.length_nil, Nat.reduceAdd, Nat.reduceSub, Array.replicate_succ, Array.replicate_zero, List.push_toArray, List.append_toArray, List.nil_append, List.cons_append]
 gi_wp2_with fail
 generalize (((w.alloc (.cells #[.int .u8 2, .bool false, .slice none 0 0, .slice none 0 0, .int .i32 32, .slice none 0 0] 113)).alloc (.cells #[.slice none 0 0, .slice none 0 0] 29)).alloc (.cells #[.slice none 0 0] 27)) = W0 at *
 obtain ⟨i0, hi, hz0, hz1, hz2⟩ := info_parts info_item
 refine wpIn_range_paysX rfl (by omega) (gf := 248) (lb := #[.pointer (some ⟨Bn, 0, none⟩)]) rfl trivial (enters_of Tryz.func248 (by kernel_rfl) rfl)
  (chars_pays (s := s) (n₀ := w.heap.size) (Bn := Bn) 5 (by omega) hs hBw (by omega) (hBn.below g hBw))
  (fun h h' => h.trans h') (fun W l o o' hl ho _ hw => keepC_put (B0 := W0.heap.size) (by omega) W l o o' hl ho hw) (Below.refl _ _) (fun _ => rfl)
  (fun pre W => pre.length ≤ 4096 ∧ ∃ v, BoxA W (w.heap.size + 1 + 1) 27 #[v] ∧ W.ownsRow W0.heap.size 113 6 v pre.length (pre.flatMap chCells) ∧ Below (w.heap.size + 1 + 1) W0 W)
  ?hI ⟨by simp, _, RL, World.ownsRow_nil _ _ _ _, Below.refl _ _⟩ ?hS
  (fun c pre W => c = .exit 0 ∧ ∃ p, p <+: pre ∧ p.length = 4096 ∧ ∃ v, BoxA W (w.heap.size + 1 + 1) 27 #[v] ∧ W.ownsRow W0.heap.size 113 6 v p.length (p.flatMap chCells) ∧ Below (w.heap.size + 1 + 1) W0 W) ?hIx
  (fun pre x a' W => ∃ Bx, W0.heap.size ≤ Bx ∧ BoxA W Bx 113 #[.int .u8 2, .bool false, .slice none 0 0, .slice none 0 0, .int .i32 x, .slice none 0 0] ∧ a' = { tmps := #[.agg #[.int .u8 2, .bool false, .slice none 0 0, .slice none 0 0, .int .i32 32, .slice none 0 0], .func (.func 248) #[] #[.pointer (some ⟨Bn, 0, none⟩)], .pointer (some ⟨w.heap.size, 0, none⟩), undef, .pointer (some ⟨w.heap.size + 1, 0, none⟩), .pointer (some ⟨w.heap.size + 1 + 1, 0, none⟩), .pointer (some ⟨Bx, 0, none⟩), .func (.func 248) #[] #[.pointer (some ⟨Bn, 0, none⟩)], .agg #[.int .u8 2, .bool false, .slice none 0 0, .slice none 0 0, .int .i32 x, .slice none 0 0], undef, undef, undef, undef, undef, undef, undef, undef, undef, undef, undef, undef, undef, undef, undef, undef, undef, undef, undef], defers := [] })
  ?hAx ?assign ?body ?done ?stop
 case hI =>
  rintro s A B row ⟨h0, v, b1, b2, b3⟩ hg hrow
  exact ⟨h0, v, row_grown b1 b2 b3 hg (by omega) hrow⟩
 case hIx =>
  rintro c s A B row ⟨hc, p, hp, hl, v, b1, b2, b3⟩ hg hrow
  exact ⟨hc, p, hp, hl, v, row_grown b1 b2 b3 hg (by omega) hrow⟩
 case hS =>
  rintro s A B row h hg hrow
  exact h
 case hAx =>
  rintro pre x a' _ A B row ⟨Bx, h2, h3, h4⟩ hg hrow
  refine ⟨Bx, h2, h3.grown hg (fun e => ?_), h4⟩
  obtain ⟨_, o, ho, hc⟩ := hrow _ e
  unfold BoxA at h3
  rw [h3] at ho
  cases ho
  cases hc
 case assign =>
  rintro l pre x W K ⟨hl, v, b1, b2, b3⟩ hG hK
  dsimp only [chEncs]
  have s3 := b3.size
  have kx := below_alloc W (.cells #[.int .u8 2, .bool false, .slice none 0 0, .slice none 0 0, .int .i32 x, .slice none 0 0] 113)
  gi_wp2
  exact hK _ _ ((KeepsOthers.alloc _ _).from _) ⟨kx.mono (by omega), (KeepsOthers.alloc _ _).walks⟩ ⟨hl, v, b1.below kx b1.lt, b2.alloc _, b3.trans (kx.mono (by omega))⟩ ⟨W.heap.size, s3, boxA_new W _ _, rfl⟩
 case body =>
  rintro l pre x a' W ⟨hl, v, b1, b2, b3⟩ ⟨Bx, hBx, bX, rfl⟩
  have s3 := b3.size
  obtain ⟨av, cv, rfl⟩ := row_form2 b2
  have cO := b1.cell 0 rfl
  have fO := b1.frozen 0
  by_cases hlen : pre.length = 4096
  · have hd : decide (((pre.length : Nat) : Int) = 4096) = true := by simp; omega
    gi_wp2_with fail
    exact ⟨KeepsFrom.refl _ _, rfl, pre, ⟨[x], rfl⟩, hlen, _, b1, b2, b3⟩
  have hd : decide (((pre.length : Nat) : Int) = 4096) = false := by simp; omega
  have m0 := bX.cell 0 rfl
  have m1 := bX.cell 1 rfl
  have m2 := bX.cell 2 rfl
  have m3 := bX.cell 3 rfl
  have m4 := bX.cell 4 rfl
  have m5 := bX.cell 5 rfl
  have kx := below_alloc W (.cells #[.int .u8 2, .bool false, .slice none 0 0, .slice none 0 0, .int .i32 x, .slice none 0 0] 113)
  have NX := boxA_new W #[.int .u8 2, .bool false, .slice none 0 0, .slice none 0 0, .int .i32 x, .slice none 0 0] 113
  gi_wp2_with (gi_at_builtin; refine wpListIn_append_own _ rfl _ _ 27 rfl W0.heap.size 113 i0 (.agg #[.int .u8 0, .bool false, .slice none 0 0, .slice none 0 0, .int .i32 0, .slice none 0 0]) 6 96 Tryz.underlying27 hi hz0 hz1 hz2 rfl (by decide) _ _ _ rfl (b2.alloc _) ⟨W.heap.size, 0, none⟩ 1 1 (chCells x) rfl rfl ?c1 ?c2 ?c3 ?c4 ?c5 ?_)
  case c1 =>
   intro j u hj
   match j, hj with
   | 0, hj => simp [chCells] at hj; subst hj; exact NX.cell 0 rfl
   | 1, hj => simp [chCells] at hj; subst hj; exact NX.cell 1 rfl
   | 2, hj => simp [chCells] at hj; subst hj; exact NX.cell 2 rfl
   | 3, hj => simp [chCells] at hj; subst hj; exact NX.cell 3 rfl
   | 4, hj => simp [chCells] at hj; subst hj; exact NX.cell 4 rfl
   | 5, hj => simp [chCells] at hj; subst hj; exact NX.cell 5 rfl
   | j + 6, hj => simp [chCells] at hj
  case c2 =>
   intro u hu
   simp only [chCells, List.mem_cons, List.not_mem_nil, or_false] at hu
   rcases hu with rfl | rfl | rfl | rfl | rfl | rfl <;> rfl
  case c3 => unfold maxLen; omega
  case c4 => omega
  case c5 => have := kx.size; omega
  intro v' wa hown' hgrow _
  obtain ⟨g', cap', rfl⟩ := row_form hown'
  have hrow : ∀ j, (Value.slice av pre.length cv).ownBlock = some j → w.heap.size + 1 + 1 + 1 ≤ j := fun j hj => by have := (b2.lt j hj).1; omega
  have hne : (Value.slice av pre.length cv).ownBlock ≠ some (w.heap.size + 1 + 1) := fun e => by have := hrow _ e; omega
  have bO2 := (b1.below kx b1.lt).grown hgrow hne
  have cO2 := bO2.cell 0 rfl
  have fO2 := bO2.frozen 0
  have sa := hgrow.size
  have sx := kx.size
  have hty := row_ty (b2.alloc (.cells #[.int .u8 2, .bool false, .slice none 0 0, .slice none 0 0, .int .i32 x, .slice none 0 0] 113))
  have kB1 : Below (w.heap.size + 1 + 1) W wa := (kx.mono (by omega)).grown hgrow (by omega) (fun k e => by have := hrow k e; omega)
  have kF1 : KeepsOthers W wa := (KeepsOthers.alloc W _).trans (KeepsOthers.of_grownBy hgrow (fun j o e ho => by obtain ⟨o', ho', _, hc⟩ := hty j e; rw [ho] at ho'; cases ho'; exact hc))
  gi_wp2
  have kF2 := kF1.trans (KeepsOthers.setCell wa ⟨w.heap.size + 1 + 1, 0, none⟩ (.slice (some ⟨g', 0, none⟩) (pre.length + 1) cap'))
  refine ⟨kF2.from _, ⟨(kB1.mono (by omega)).setCell (p := ⟨w.heap.size + 1 + 1, 0, none⟩) (show w.heap.size ≤ w.heap.size + 1 + 1 by omega) _, kF2.walks⟩, by simp; omega, _, bO2.put1 _, ?_, ?_⟩
  · have hr := ownsRow_setCell_other hown' (a := ⟨w.heap.size + 1 + 1, 0, none⟩) (fun e => by have := (hown'.lt _ e).1; simp at this; omega) (.slice (some ⟨g', 0, none⟩) (pre.length + 1) cap')
    rw [sW]
    simpa using hr
  · exact (b3.trans kB1).setCell (p := ⟨w.heap.size + 1 + 1, 0, none⟩) (Nat.le_refl _) _
 case' done =>
  rintro D xs W hD hxs ⟨hl, v, b1, b2, b3⟩ hK
  have HX : Hid (xs = (decs s s.size 0).take 4096) := by unfold Hid; rw [← hxs, List.take_of_length_le hl]
  clear hxs
 case' stop =>
  rintro D c ps W hD hsp ⟨rfl, xs, hp, hl, v, b1, b2, b3⟩ hK
  have HX : Hid (xs = (decs s s.size 0).take 4096) := by unfold Hid; rw [← hl]; exact List.prefix_iff_eq_take.1 (hp.trans hsp)
  replace hl : xs.length ≤ 4096 := by omega
  clear hp hsp
 all_goals
  obtain ⟨av, cv, rfl⟩ := row_form2 b2
  have s3 := b3.size
  have cO := b1.cell 0 rfl
  have RP' := (RP.below b3 (by omega))
  have RA' := (RA.below b3 (by omega))
  have gW : Below w.heap.size w W := g.trans (b3.mono (by omega))
  by_cases h0 : xs.length = 0
  · have hd : decide (((xs.length : Nat) : Int) = 0) = true := decide_eq_true (by omega)
    have k1 := below_alloc W (.cells #[.int .i64 0] 3)
    have k2 := below_alloc (W.alloc (.cells #[.int .i64 0] 3)) (.cells #[.int .u8 2, .bool false, .slice none 0 0, .slice none 0 0, .int .i32 32, .slice none 0 0] 113)
    have RP1 := RP'.below k1 (by omega)
    have RA2 := (RA'.below k1 (by omega)).below k2 (by simp; omega)
    have q0 := RA2.frozen 0
    have q2 := RA2.cell 0 rfl
    have q3 := RA2.cell 1 rfl
    have q1 := RA2.frozen 1
    have p0 := RP1.cell 0 rfl
    have p1 := RP1.cell 1 rfl
    have p2 := RP1.cell 2 rfl
    have p3 := RP1.cell 3 rfl
    have p4 := RP1.cell 4 rfl
    have p5 := RP1.cell 5 rfl
    gi_wp2
    have hDW : D < W.heap.size := (Array.getElem?_eq_some_iff.1 hK).1
    have hK2 := ((KeepsOthers.alloc W (.cells #[.int .i64 0] 3)).trans ((KeepsOthers.alloc _ (.cells #[.int .u8 2, .bool false, .slice none 0 0, .slice none 0 0, .int .i32 32, .slice none 0 0] 113)).trans ((KeepsOthers.setCell _ ⟨w.heap.size + 1, 0, none⟩ (.slice (some ⟨W.heap.size, 0, none⟩) 1 1)).trans (KeepsOthers.setCell _ ⟨w.heap.size + 1, 1, none⟩ (.slice (some ⟨W.heap.size + 1, 0, none⟩) 1 1))))).same D _ hK rfl
    refine ⟨by simp, .inl ⟨_, _, rfl, run_takeDeferred hK2, ?_⟩⟩
    have hgp := grownBy_putObj' ((((W.alloc (.cells #[.int .i64 0] 3)).alloc (.cells #[.int .u8 2, .bool false, .slice none 0 0, .slice none 0 0, .int .i32 32, .slice none 0 0] 113)).setCell ⟨w.heap.size + 1, 0, none⟩ (.slice (some ⟨W.heap.size, 0, none⟩) 1 1)).setCell ⟨w.heap.size + 1, 1, none⟩ (.slice (some ⟨W.heap.size + 1, 0, none⟩) 1 1)) D (.deferred none)
    have hX := (RA2.set2 (.slice (some ⟨W.heap.size, 0, none⟩) 1 1) (.slice (some ⟨W.heap.size + 1, 0, none⟩) 1 1)).grown hgp (fun e => by cases e; omega)
    have x0 := hX.cell 0 rfl
    have x1 := hX.cell 1 rfl
    have N1 := ((((boxA_new W #[.int .i64 0] 3).below k2 (by simp)).other (p := ⟨w.heap.size + 1, 0, none⟩) (show w.heap.size + 1 ≠ W.heap.size by omega) (.slice (some ⟨W.heap.size, 0, none⟩) 1 1)).other (p := ⟨w.heap.size + 1, 1, none⟩) (show w.heap.size + 1 ≠ W.heap.size by omega) (.slice (some ⟨W.heap.size + 1, 0, none⟩) 1 1)).grown hgp (fun e => by cases e; omega)
    have N2 := (((boxA_new (W.alloc (.cells #[.int .i64 0] 3)) #[.int .u8 2, .bool false, .slice none 0 0, .slice none 0 0, .int .i32 32, .slice none 0 0] 113).other (p := ⟨w.heap.size + 1, 0, none⟩) (show w.heap.size + 1 ≠ (W.alloc (.cells #[.int .i64 0] 3)).heap.size by simp; omega) (.slice (some ⟨W.heap.size, 0, none⟩) 1 1)).other (p := ⟨w.heap.size + 1, 1, none⟩) (show w.heap.size + 1 ≠ (W.alloc (.cells #[.int .i64 0] 3)).heap.size by simp; omega) (.slice (some ⟨W.heap.size + 1, 0, none⟩) 1 1)).grown hgp (fun e => by have h := Option.some.inj e; simp at h; omega)
    rw [World.size_alloc] at N2
    refine ⟨.agg #[(.slice (some ⟨W.heap.size, 0, none⟩) 1 1), (.slice (some ⟨W.heap.size + 1, 0, none⟩) 1 1)], by simp [results, Tryz.results236, go_sem, x0, x1], W.heap.size, _, rfl, by omega, ?_, .inl ⟨?_, W.heap.size + 1, rfl, by omega, N2⟩, ?_⟩
    · rw [← HX.out, h0]; exact N1
    · rw [← HX.out]; exact List.length_eq_zero_iff.1 h0
    · exact ((((gW.trans (k1.mono (by omega))).trans (k2.mono (by simp; omega))).setCell (p := ⟨w.heap.size + 1, 0, none⟩) (show w.heap.size ≤ w.heap.size + 1 by omega) _).setCell (p := ⟨w.heap.size + 1, 1, none⟩) (show w.heap.size ≤ w.heap.size + 1 by omega) _).grown hgp (by simp [World.setCell]; omega) (fun k e => by cases e; omega)
  have hd : decide (((xs.length : Nat) : Int) = 0) = false := decide_eq_false (by omega)
  have k1 := below_alloc W (.cells #[.int .i64 (xs.length : Int)] 3)
  have cO1 := (b1.below k1 (by omega)).cell 0 rfl
  have RA1 := RA'.below k1 (by omega)
  have q0 := RA1.frozen 0
  have q2 := RA1.cell 0 rfl
  have q3 := RA1.cell 1 rfl
  have q1 := RA1.frozen 1
  gi_wp2
  have hDW : D < W.heap.size := (Array.getElem?_eq_some_iff.1 hK).1
  have hK2 := ((KeepsOthers.alloc W (.cells #[.int .i64 (xs.length : Int)] 3)).trans ((KeepsOthers.setCell _ ⟨w.heap.size + 1, 0, none⟩ (.slice (some ⟨W.heap.size, 0, none⟩) 1 1)).trans (KeepsOthers.setCell _ ⟨w.heap.size + 1, 1, none⟩ (.slice av xs.length cv)))).same D _ hK rfl
  refine ⟨by simp, .inl ⟨_, _, rfl, run_takeDeferred hK2, ?_⟩⟩
  have hgp := grownBy_putObj' (((W.alloc (.cells #[.int .i64 (xs.length : Int)] 3)).setCell ⟨w.heap.size + 1, 0, none⟩ (.slice (some ⟨W.heap.size, 0, none⟩) 1 1)).setCell ⟨w.heap.size + 1, 1, none⟩ (.slice av xs.length cv)) D (.deferred none)
  have hX := (RA1.set2 (.slice (some ⟨W.heap.size, 0, none⟩) 1 1) (.slice av xs.length cv)).grown hgp (fun e => by cases e; omega)
  have x0 := hX.cell 0 rfl
  have x1 := hX.cell 1 rfl
  have N1 := (((boxA_new W #[.int .i64 (xs.length : Int)] 3).other (p := ⟨w.heap.size + 1, 0, none⟩) (show w.heap.size + 1 ≠ W.heap.size by omega) (.slice (some ⟨W.heap.size, 0, none⟩) 1 1)).other (p := ⟨w.heap.size + 1, 1, none⟩) (show w.heap.size + 1 ≠ W.heap.size by omega) (.slice av xs.length cv)).grown hgp (fun e => by cases e; omega)
  have hlo : ∀ j, (Value.slice av xs.length cv).ownBlock = some j → w.heap.size + 1 + 1 + 1 ≤ j := fun j hj => by have := (b2.lt j hj).1; omega
  have hneD : (Value.slice av xs.length cv).ownBlock ≠ some D := fun e => by
   obtain ⟨o, ho, _, hc⟩ := row_ty b2 D e
   rw [hK] at ho
   cases ho
   cases hc
  have hR := (ownsRow_setCell_other (ownsRow_setCell_other (b2.alloc (.cells #[.int .i64 (xs.length : Int)] 3)) (a := ⟨w.heap.size + 1, 0, none⟩) (fun e => by have := hlo _ e; simp at this; omega) (.slice (some ⟨W.heap.size, 0, none⟩) 1 1)) (a := ⟨w.heap.size + 1, 1, none⟩) (fun e => by have := hlo _ e; simp at this; omega) (.slice av xs.length cv)).kept hgp (Or.inr hneD)
  refine ⟨.agg #[(.slice (some ⟨W.heap.size, 0, none⟩) 1 1), (.slice av xs.length cv)], by simp [results, Tryz.results236, go_sem, x0, x1], W.heap.size, _, rfl, by omega, ?_, .inr ⟨?_, ?_⟩, ?_⟩
  · rw [← HX.out]; exact N1
  · rw [← HX.out]; exact fun e => h0 (by rw [e]; rfl)
  · rw [← HX.out]; exact row_mono hR (by omega)
  · exact (((gW.trans (k1.mono (by omega))).setCell (p := ⟨w.heap.size + 1, 0, none⟩) (show w.heap.size ≤ w.heap.size + 1 by omega) _).setCell (p := ⟨w.heap.size + 1, 1, none⟩) (show w.heap.size ≤ w.heap.size + 1 by omega) _).grown hgp (by simp [World.setCell]; omega) (fun k e => by cases e; omega)
end Go.Proofs.YtimfnalpmmkndaaGreatDoor

/- array.Text. -/
namespace Go.Proofs.YtimfnalpmmkndaaGreatDoor
set_option linter.unusedVariables false
set_option linter.unusedSimpArgs false
open Go.RowKit Go.Shelf

theorem characters_any (s : ByteArray) (w : World) : Calls Tryz.prog 237 #[.string s] w fun e w' => e = .returned (.func (.func 248) #[] #[.pointer (some ⟨w.heap.size, 0, none⟩)]) ∧ w' = w.alloc (.cells #[.string s] 9) := by
 go_enter Tryz.func237, Tryz.ntmps237
 go_wp2
 go_ret
 exact ⟨rfl, rfl⟩

structure TextAt (base : Nat) (w' : World) (v : Value) (ys : List Int) : Prop where
 form : ∃ g1 v2, v = .agg #[.slice (some ⟨g1, 0, none⟩) 1 1, v2] ∧ base ≤ g1 ∧ BoxA w' g1 3 #[.int .i64 ((ys.length : Nat) : Int)] ∧
     ((ys = [] ∧ ∃ g2, v2 = .slice (some ⟨g2, 0, none⟩) 1 1 ∧ base ≤ g2 ∧ BoxA w' g2 113 #[.int .u8 2, .bool false, .slice none 0 0, .slice none 0 0, .int .i32 32, .slice none 0 0]) ∨
      (ys ≠ [] ∧ w'.ownsRow base 113 6 v2 ys.length (ys.flatMap chCells)))

theorem TextAt.mono {b b' : Nat} {W : World} {v : Value} {ys : List Int} (h : TextAt b W v ys) (hb : b' ≤ b) : TextAt b' W v ys := by
 obtain ⟨g1, v2, rfl, h1, h2, h3⟩ := h.form
 refine ⟨_, _, rfl, by omega, h2, ?_⟩
 rcases h3 with ⟨h, g2, e, h4, h5⟩ | ⟨h, h4⟩
 · exact .inl ⟨h, g2, e, by omega, h5⟩
 · exact .inr ⟨h, row_mono h4 hb⟩
theorem TextAt.setC {n : Nat} {W : World} {v : Value} {ys : List Int} (h : TextAt (n + 1) W v ys) (i : Nat) (u : Value) : TextAt (n + 1) (W.setCell ⟨n, i, none⟩ u) v ys := by
 obtain ⟨g1, v2, rfl, h1, h2, h3⟩ := h.form
 refine ⟨_, _, rfl, h1, h2.other (p := ⟨n, i, none⟩) (show n ≠ g1 by omega) u, ?_⟩
 rcases h3 with ⟨h, g2, e, h4, h5⟩ | ⟨h, h4⟩
 · exact .inl ⟨h, g2, e, h4, h5.other (p := ⟨n, i, none⟩) (show n ≠ g2 by omega) u⟩
 · exact .inr ⟨h, ownsRow_setCell_other h4 (a := ⟨n, i, none⟩) (fun e => by have := (h4.lt _ e).1; simp at this; omega) u⟩
set_option maxRecDepth 100000 in
set_option maxHeartbeats 6400000 in
theorem text_any (s : ByteArray) (w : World) (hs : s.size ≤ 9223372036854775807) : Calls Tryz.prog 221 #[.string s] w fun e w' => ∃ v, e = .returned v ∧ TextAt w.heap.size w' v ((decs s s.size 0).take 4096) ∧ Below w.heap.size w w' := by
 go_enter Tryz.func221, Tryz.ntmps221
 have k0 := below_alloc w (.cells #[.slice none 0 0, .slice none 0 0] 29)
 have RA := boxA_new w #[.slice none 0 0, .slice none 0 0] 29
 have s0 : (w.alloc (.cells #[.slice none 0 0, .slice none 0 0] 29)).heap.size = w.heap.size + 1 := by simp
 go_wp2_with fail
 generalize w.alloc (.cells #[.slice none 0 0, .slice none 0 0] 29) = w0 at *
 refine (character_any 32 w0).mono ?_
 rintro e w1 ⟨rfl, hw1⟩
 have k1 := below_alloc w0 (.cells #[.int .u8 2, .bool false, .slice none 0 0, .slice none 0 0, .int .i32 32, .slice none 0 0] 113)
 rw [← hw1] at k1
 clear hw1
 go_wp2_with fail
 refine (characters_any s w1).mono ?_
 rintro e w2 ⟨rfl, hw2⟩
 have k2 := below_alloc w1 (.cells #[.string s] 9)
 have N2 := boxA_new w1 #[.string s] 9
 have s2 : w1.heap.size < (w1.alloc (.cells #[.string s] 9)).heap.size := by simp
 rw [← hw2] at k2 N2 s2
 clear hw2
 go_wp2_with fail
 refine (vector_chars hs s2 N2).mono ?_
 rintro e w3 ⟨g1, v2, rfl, h1, h2, h3, k3⟩
 have z1 := k1.size
 obtain ⟨a2, n2, c2, rfl⟩ : ∃ a2 n2 c2, v2 = .slice a2 n2 c2 := by
  rcases h3 with ⟨_, g2, rfl, _⟩ | ⟨_, h⟩
  · exact ⟨_, _, _, rfl⟩
  · obtain ⟨a, c, rfl⟩ := row_form2 h; exact ⟨_, _, _, rfl⟩
 have HY : Hid (TextAt (w.heap.size + 1) w3 (.agg #[.slice (some ⟨g1, 0, none⟩) 1 1, .slice a2 n2 c2]) ((decs s s.size 0).take 4096)) := by
  refine ⟨_, _, rfl, by omega, h2, ?_⟩
  rcases h3 with ⟨h, g2, e, h4, h5⟩ | ⟨h, h4⟩
  · exact .inl ⟨h, g2, e, by omega, h5⟩
  · exact .inr ⟨h, row_mono h4 (by omega)⟩
 have R3 := ((RA.below k1 (by omega)).below k2 (by omega)).below k3 (by omega)
 have kW : Below w.heap.size w w3 := ((k0.trans (k1.mono (by omega))).trans (k2.mono (by omega))).trans (k3.mono (by omega))
 clear h2 h3
 have q0 := R3.frozen 0
 have q1 := R3.frozen 1
 have q2 := R3.cell 0 rfl
 have q3 := R3.cell 1 rfl
 go_wp2
 have R4 := R3.set2 (.slice (some ⟨g1, 0, none⟩) 1 1) (.slice a2 n2 c2)
 have x0 := R4.cell 0 rfl
 have x1 := R4.cell 1 rfl
 refine bodyPost_ret (v := .agg #[.slice (some ⟨g1, 0, none⟩) 1 1, .slice a2 n2 c2]) (by simp [results, Tryz.results221, go_sem, x0, x1]) rfl ?_
 exact ⟨_, rfl, ((HY.out.setC 0 _).setC 1 _).mono (by omega), (kW.setCell (p := ⟨w.heap.size, 0, none⟩) (Nat.le_refl _) _).setCell (p := ⟨w.heap.size, 1, none⟩) (Nat.le_refl _) _⟩
end Go.Proofs.YtimfnalpmmkndaaGreatDoor

/- array.Char at a character that is one. -/
namespace Go.Proofs.YtimfnalpmmkndaaGreatDoor
set_option linter.unusedVariables false
set_option linter.unusedSimpArgs false
open Go.RowKit Go.Shelf

set_option maxRecDepth 100000 in
set_option maxHeartbeats 1600000 in
theorem scalar_ch (c : Int) (w : World) :
    Calls Tryz.prog 60 #[.agg #[.int .u8 2, .bool false, .slice none 0 0, .slice none 0 0, .int .i32 c, .slice none 0 0]] w fun e w' => ∃ k, e = .returned (.agg #[.slice none 0 0, .slice (some ⟨k, 0, none⟩) 1 1]) ∧ w.heap.size ≤ k ∧ BoxA w' k 113 #[.int .u8 2, .bool false, .slice none 0 0, .slice none 0 0, .int .i32 c, .slice none 0 0] ∧ Below w.heap.size w w' := by
 have g1 := (Below.refl w.heap.size w).alloc (Nat.le_refl _) (.cells #[.int .u8 2, .bool false, .slice none 0 0, .slice none 0 0, .int .i32 c, .slice none 0 0] 113)
 have g2 := g1.alloc (by simp) (.cells #[.slice none 0 0, .slice (some ⟨w.heap.size + 1 + 1, 0, none⟩) 1 1] 29)
 have g3 := g2.alloc (by simp; omega) (.cells #[.int .u8 2, .bool false, .slice none 0 0, .slice none 0 0, .int .i32 c, .slice none 0 0] 113)
 have hk := boxA_new ((w.alloc (.cells #[.int .u8 2, .bool false, .slice none 0 0, .slice none 0 0, .int .i32 c, .slice none 0 0] 113)).alloc (.cells #[.slice none 0 0, .slice (some ⟨w.heap.size + 1 + 1, 0, none⟩) 1 1] 29)) #[.int .u8 2, .bool false, .slice none 0 0, .slice none 0 0, .int .i32 c, .slice none 0 0] 113
 rw [World.size_alloc, World.size_alloc] at hk
 have hb := boxA_new (w.alloc (.cells #[.int .u8 2, .bool false, .slice none 0 0, .slice none 0 0, .int .i32 c, .slice none 0 0] 113)) #[.slice none 0 0, .slice (some ⟨w.heap.size + 1 + 1, 0, none⟩) 1 1] 29
 have hb2 := hb.below (below_alloc _ (.cells #[.int .u8 2, .bool false, .slice none 0 0, .slice none 0 0, .int .i32 c, .slice none 0 0] 113)) (by simp)
 rw [World.size_alloc] at hb2
 go_enter Tryz.func60, Tryz.ntmps60
 go_wp2
 have r0 := hb2.cell 0 rfl
 have r1 := hb2.cell 1 rfl
 refine bodyPost_ret (v := .agg #[.slice none 0 0, .slice (some ⟨w.heap.size + 1 + 1, 0, none⟩) 1 1]) (by simp [results, Tryz.results60, go_sem, r0, r1]) rfl ?_
 exact ⟨_, rfl, by omega, hk, g3⟩

theorem validRune_ok (c : Int) (w : World) (hv : (0 ≤ c ∧ c < 55296) ∨ (57343 < c ∧ c ≤ 1114111)) : Calls Tryz.prog 148 #[.int .i32 c] w fun e w' => e = .returned (.bool true) ∧ Below w.heap.size w w' := by
 go_enter Tryz.func148, Tryz.ntmps148
 rcases hv with ⟨h1, h2⟩ | ⟨h1, h2⟩
 · go_wp2
   go_ret
   exact ⟨rfl, Below.refl _ _⟩
 · go_wp2
   go_ret
   exact ⟨rfl, Below.refl _ _⟩
set_option maxRecDepth 100000 in
set_option maxHeartbeats 1600000 in
theorem char_any (c : Int) (w : World) (hv : (0 ≤ c ∧ c < 55296) ∨ (57343 < c ∧ c ≤ 1114111)) :
    Calls Tryz.prog 220 #[.int .i32 c] w fun e w' => ∃ k, e = .returned (.agg #[.slice none 0 0, .slice (some ⟨k, 0, none⟩) 1 1]) ∧ w.heap.size ≤ k ∧ BoxA w' k 113 #[.int .u8 2, .bool false, .slice none 0 0, .slice none 0 0, .int .i32 c, .slice none 0 0] ∧ Below w.heap.size w w' := by
 have k0 := below_alloc w (.cells #[.slice none 0 0, .slice none 0 0] 29)
 have RA := boxA_new w #[.slice none 0 0, .slice none 0 0] 29
 have s0 : (w.alloc (.cells #[.slice none 0 0, .slice none 0 0] 29)).heap.size = w.heap.size + 1 := by simp
 go_enter Tryz.func220, Tryz.ntmps220
 go_wp2_with fail
 generalize w.alloc (.cells #[.slice none 0 0, .slice none 0 0] 29) = w0 at *
 refine (validRune_ok c w0 hv).mono ?_
 rintro e w1 ⟨rfl, k1⟩
 go_wp2_with fail
 refine (character_any c w1).mono ?_
 rintro e w2 ⟨rfl, hw2⟩
 have k2 := below_alloc w1 (.cells #[.int .u8 2, .bool false, .slice none 0 0, .slice none 0 0, .int .i32 c, .slice none 0 0] 113)
 rw [← hw2] at k2
 clear hw2
 go_wp2_with fail
 refine (scalar_ch c w2).mono ?_
 rintro e w3 ⟨k, rfl, hk, hB, k3⟩
 have z1 := k1.size
 have z2 := k2.size
 have R3 := ((RA.below k1 (by omega)).below k2 (by omega)).below k3 (by omega)
 have kW : Below w.heap.size w w3 := ((k0.trans (k1.mono (by omega))).trans (k2.mono (by omega))).trans (k3.mono (by omega))
 have q0 := R3.frozen 0
 have q1 := R3.frozen 1
 have q2 := R3.cell 0 rfl
 have q3 := R3.cell 1 rfl
 go_wp2
 have R4 := R3.set2 (.slice none 0 0) (.slice (some ⟨k, 0, none⟩) 1 1)
 have x0 := R4.cell 0 rfl
 have x1 := R4.cell 1 rfl
 refine bodyPost_ret (v := .agg #[.slice none 0 0, .slice (some ⟨k, 0, none⟩) 1 1]) (by simp [results, Tryz.results220, go_sem, x0, x1]) rfl ?_
 exact ⟨k, rfl, by omega, (hB.other (p := ⟨w.heap.size, 0, none⟩) (show w.heap.size ≠ k by omega) _).other (p := ⟨w.heap.size, 1, none⟩) (show w.heap.size ≠ k by omega) _, (kW.setCell (p := ⟨w.heap.size, 0, none⟩) (Nat.le_refl _) _).setCell (p := ⟨w.heap.size, 1, none⟩) (Nat.le_refl _) _⟩
end Go.Proofs.YtimfnalpmmkndaaGreatDoor

/- lex: more sorts of characters; a character among those of a text; pieces of a line; names. -/
namespace Go.Proofs.YtimfnalpmmkndaaGreatDoor
set_option linter.unusedVariables false
set_option linter.unusedSimpArgs false
open Go.RowKit

def lt (c : Int) : Bool := (decide (65 ≤ c) && decide (c ≤ 90)) || (decide (97 ≤ c) && decide (c ≤ 122))
def bn (c : Int) : Bool := lt c || decide (c = 95) || decide (c = 8710)
def inm (c : Int) : Bool := bn c || dg c

set_option maxRecDepth 100000 in
theorem isLetter_any (c : Int) (w : World) : Calls Tryz.prog 188 #[.int .i32 c] w fun e w' => e = .returned (.bool (lt c)) ∧ w' = w := by
 go_enter Tryz.func188, Tryz.ntmps188
 have hcs : (65 ≤ c ∧ c ≤ 90) ∨ (c < 65) ∨ (90 < c ∧ c < 97) ∨ (97 ≤ c ∧ c ≤ 122) ∨ 122 < c := by omega
 rcases hcs with ⟨h1, h2⟩ | h1 | ⟨h1, h2⟩ | ⟨h1, h2⟩ | h1
 · have HV : Hid (lt c = true) := by unfold Hid lt; simp; omega
   go_wp2
   go_ret
   exact ⟨by rw [HV.out]; rfl, rfl⟩
 · have HV : Hid (lt c = false) := by unfold Hid lt; simp; omega
   have h3 : ¬ 65 ≤ c := by omega
   have h4 : ¬ 97 ≤ c := by omega
   go_wp2
   go_ret
   exact ⟨by rw [HV.out]; rfl, rfl⟩
 · have HV : Hid (lt c = false) := by unfold Hid lt; simp; omega
   have h3 : 65 ≤ c := by omega
   have h4 : ¬ c ≤ 90 := by omega
   have h5 : ¬ 97 ≤ c := by omega
   go_wp2
   go_ret
   exact ⟨by rw [HV.out]; rfl, rfl⟩
 · have HV : Hid (lt c = true) := by unfold Hid lt; simp; omega
   have h3 : 65 ≤ c := by omega
   have h4 : ¬ c ≤ 90 := by omega
   go_wp2
   go_ret
   exact ⟨by rw [HV.out]; rfl, rfl⟩
 · have HV : Hid (lt c = false) := by unfold Hid lt; simp; omega
   have h3 : 65 ≤ c := by omega
   have h4 : ¬ c ≤ 90 := by omega
   have h5 : 97 ≤ c := by omega
   have h6 : ¬ c ≤ 122 := by omega
   go_wp2
   go_ret
   exact ⟨by rw [HV.out]; rfl, rfl⟩
set_option maxRecDepth 100000 in
theorem beginsName_any (c : Int) (w : World) : Calls Tryz.prog 186 #[.int .i32 c] w fun e w' => e = .returned (.bool (bn c)) ∧ w' = w := by
 go_enter Tryz.func186, Tryz.ntmps186
 go_wp2_with fail
 refine (isLetter_any c _).mono ?_
 rintro e w' ⟨rfl, rfl⟩
 cases hd : lt c with
 | true =>
  have HV : Hid (bn c = true) := by unfold Hid bn; rw [hd]; rfl
  clear hd
  go_wp2
  go_ret
  exact ⟨by rw [HV.out]; rfl, rfl⟩
 | false =>
  by_cases h1 : c = 95
  · have HV : Hid (bn c = true) := by unfold Hid bn; rw [hd, decide_eq_true h1]; rfl
    have e1 : (c == 95) = true := by rw [beq_iff_eq]; exact h1
    clear hd h1
    go_wp2
    go_ret
    exact ⟨by rw [HV.out]; rfl, rfl⟩
  · have e1 : (c == 95) = false := by rw [beq_eq_false_iff_ne]; exact h1
    by_cases h2 : c = 8710
    · have HV : Hid (bn c = true) := by unfold Hid bn; rw [hd, decide_eq_false h1, decide_eq_true h2]; rfl
      have e2 : (c == 8710) = true := by rw [beq_iff_eq]; exact h2
      clear hd h1 h2
      go_wp2
      go_ret
      exact ⟨by rw [HV.out]; rfl, rfl⟩
    · have HV : Hid (bn c = false) := by unfold Hid bn; rw [hd, decide_eq_false h1, decide_eq_false h2]; rfl
      have e2 : (c == 8710) = false := by rw [beq_eq_false_iff_ne]; exact h2
      clear hd h1 h2
      go_wp2
      go_ret
      exact ⟨by rw [HV.out]; rfl, rfl⟩
set_option maxRecDepth 100000 in
theorem inName_any (c : Int) (w : World) : Calls Tryz.prog 205 #[.int .i32 c] w fun e w' => e = .returned (.bool (inm c)) ∧ w' = w := by
 go_enter Tryz.func205, Tryz.ntmps205
 go_wp2_with fail
 refine (beginsName_any c _).mono ?_
 rintro e w' ⟨rfl, rfl⟩
 cases hd : bn c with
 | true =>
  have HV : Hid (inm c = true) := by unfold Hid inm; rw [hd]; rfl
  clear hd
  go_wp2
  go_ret
  exact ⟨by rw [HV.out]; rfl, rfl⟩
 | false =>
  have HV : Hid (inm c = dg c) := by unfold Hid inm; rw [hd]; rfl
  clear hd
  go_wp2_with fail
  refine (isDigit_any c _).mono ?_
  rintro e w' ⟨rfl, rfl⟩
  generalize dg c = r at *
  go_wp2
  go_ret
  exact ⟨by rw [HV.out]; rfl, rfl⟩

set_option maxRecDepth 100000 in
set_option maxHeartbeats 1600000 in
theorem isAmong_any (s : ByteArray) (c : Int) (w : World) :
    Calls Tryz.prog 191 #[.string s, .int .i32 c] w fun e w' => e = .returned (.bool (decide (c ∈ decs s s.size 0))) ∧ Below w.heap.size w w' := by
 go_enter Tryz.func191, Tryz.ntmps191
 go_wp2
 go_loopw [] (fun wr => ∃ (pos fuel : Nat), wr = w.iter s pos ∧ Hid (c ∈ decs s fuel pos ↔ c ∈ decs s s.size 0) ∧ s.size ≤ pos + fuel ∧ pos ≤ s.size) (fun wr => s.size - wr.iterPos w.heap.size)
 case atStart => exact ⟨0, s.size, rfl, Iff.rfl, by omega, by omega⟩
 case round =>
  obtain ⟨pos, fuel, rfl, HM, hf, hps⟩ := hrel
  by_cases hp : pos < s.size
  · have hnx : ∀ ty, (Instr.next (.pointer (some ⟨w.heap.size, 0, none⟩)) true ty).run Tryz.prog (w.iter s pos) = _ := fun ty => run_next_any w s pos ty hp
    have hwd := Lib.decode_width_pos s pos hp
    have hwe := dec_end s pos hp
    obtain ⟨f, rfl⟩ : ∃ f, fuel = f + 1 := ⟨fuel - 1, by omega⟩
    have HS : Hid (decs s (f + 1) pos = ((Utf8.decode s pos).1 : Int) :: decs s f (pos + (Utf8.decode s pos).2)) := by
     unfold Hid
     rw [decs, if_pos hp]
    generalize (Utf8.decode s pos).2 = n at *
    generalize (Utf8.decode s pos).1 = C at *
    have HB : Below w.heap.size w (w.iter s (pos + n)) := below_alloc _ _
    by_cases he : (C : Int) = c
    · have e1 : ((C : Int) == c) = true := by rw [beq_iff_eq]; exact he
      have HR : Hid (decide (c ∈ decs s s.size 0) = true) := by
       unfold Hid
       rw [decide_eq_true_iff, ← HM.out, HS.out, he]
       simp
      clear he
      go_wp2
      go_ret
      exact ⟨by rw [HR.out]; rfl, HB⟩
    · have e1 : ((C : Int) == c) = false := by rw [beq_eq_false_iff_ne]; exact he
      have HM2 : Hid (c ∈ decs s f (pos + n) ↔ c ∈ decs s s.size 0) := by
       unfold Hid
       rw [← HM.out, HS.out, List.mem_cons]
       exact ⟨Or.inr, fun h => h.resolve_left (fun h => he h.symm)⟩
      clear he
      go_wp2
      go_roundw
      case rel => exact ⟨pos + n, f, rfl, HM2, by omega, by omega⟩
      case measure => simp only [World.iterPos_iter]; omega
  · have hnx : ∀ ty, (Instr.next (.pointer (some ⟨w.heap.size, 0, none⟩)) true ty).run Tryz.prog (w.iter s pos) = _ := fun ty => run_next_end w s pos ty hp
    have HR : Hid (decide (c ∈ decs s s.size 0) = false) := by
     unfold Hid
     rw [decide_eq_false_iff_not, ← HM.out]
     cases fuel <;> simp [decs, hp]
    have HB : Below w.heap.size w (w.iter s pos) := below_alloc _ _
    go_wp2
    go_ret
    exact ⟨by rw [HR.out]; rfl, HB⟩

set_option maxRecDepth 100000 in
set_option maxHeartbeats 1600000 in
theorem run_name {B : Nat} {w : World} {v : Value} {cs : List Int} (h : RdR B w v cs) (i : Nat) (hi : i ≤ cs.length) :
    Calls Tryz.prog 181 #[v, .int .i64 i, .func (.func 205) #[] #[]] w fun e w' => e = .returned (.int .i64 ((runEnd inm cs i : Nat) : Int)) ∧ w' = w := by
 obtain ⟨a, cap, rfl, h1, h2, h3⟩ := h
 go_enter Tryz.func181, Tryz.ntmps181
 go_wp2
 go_loopw [1] (fun at' wr => ∃ j : Nat, at' = .int .i64 j ∧ i ≤ j ∧ j ≤ cs.length ∧ Hid (∀ k, i ≤ k → k < j → inm (cs.getD k 0) = true) ∧ wr = w) (fun at' _ => cs.length - (intOf at').toNat)
 case atStart => exact ⟨i, rfl, Nat.le_refl _, hi, (fun k k1 k2 => by omega), rfl⟩
 case round =>
  obtain ⟨j, rfl, hij, hj, HJ, rfl⟩ := hrel
  by_cases hlt : j < cs.length
  · rcases h3 with h3 | ⟨b, off, rfl, hb, hc⟩
    · omega
    have hcj := hc j hlt
    clear hc
    generalize hC : cs.getD j 0 = C at *
    cases hp : inm C with
    | true =>
     go_wp2_with fail
     refine (inName_any C _).mono ?_
     rintro e w' ⟨rfl, rfl⟩
     rw [hp]
     go_wp2
     go_roundw
     case rel =>
      refine ⟨j + 1, by go_num, by omega, by omega, ?_, by first | trivial | rfl⟩
      intro k k1 k2
      by_cases hk : k = j
      · rw [hk, hC]; exact hp
      · exact HJ.out k k1 (by omega)
     case measure => simp [intOf]; omega
    | false =>
     have HE : Hid (runEnd inm cs i = j) := runEnd_is hij hj HJ.out (Or.inr (by rw [hC]; exact hp))
     go_wp2_with fail
     refine (inName_any C _).mono ?_
     rintro e w' ⟨rfl, rfl⟩
     rw [hp]
     go_wp2
     go_ret
     exact ⟨by rw [HE.out]; rfl, by first | trivial | rfl⟩
  · have HE : Hid (runEnd inm cs i = j) := runEnd_is hij hj HJ.out (Or.inl (by omega))
    go_wp2
    go_ret
    exact ⟨by rw [HE.out]; rfl, by first | trivial | rfl⟩

set_option maxRecDepth 100000 in
set_option maxHeartbeats 1600000 in
theorem run_letter {B : Nat} {w : World} {v : Value} {cs : List Int} (h : RdR B w v cs) (i : Nat) (hi : i ≤ cs.length) :
    Calls Tryz.prog 181 #[v, .int .i64 i, .func (.func 188) #[] #[]] w fun e w' => e = .returned (.int .i64 ((runEnd lt cs i : Nat) : Int)) ∧ w' = w := by
 obtain ⟨a, cap, rfl, h1, h2, h3⟩ := h
 go_enter Tryz.func181, Tryz.ntmps181
 go_wp2
 go_loopw [1] (fun at' wr => ∃ j : Nat, at' = .int .i64 j ∧ i ≤ j ∧ j ≤ cs.length ∧ Hid (∀ k, i ≤ k → k < j → lt (cs.getD k 0) = true) ∧ wr = w) (fun at' _ => cs.length - (intOf at').toNat)
 case atStart => exact ⟨i, rfl, Nat.le_refl _, hi, (fun k k1 k2 => by omega), rfl⟩
 case round =>
  obtain ⟨j, rfl, hij, hj, HJ, rfl⟩ := hrel
  by_cases hlt : j < cs.length
  · rcases h3 with h3 | ⟨b, off, rfl, hb, hc⟩
    · omega
    have hcj := hc j hlt
    clear hc
    generalize hC : cs.getD j 0 = C at *
    cases hp : lt C with
    | true =>
     go_wp2_with fail
     refine (isLetter_any C _).mono ?_
     rintro e w' ⟨rfl, rfl⟩
     rw [hp]
     go_wp2
     go_roundw
     case rel =>
      refine ⟨j + 1, by go_num, by omega, by omega, ?_, by first | trivial | rfl⟩
      intro k k1 k2
      by_cases hk : k = j
      · rw [hk, hC]; exact hp
      · exact HJ.out k k1 (by omega)
     case measure => simp [intOf]; omega
    | false =>
     have HE : Hid (runEnd lt cs i = j) := runEnd_is hij hj HJ.out (Or.inr (by rw [hC]; exact hp))
     go_wp2_with fail
     refine (isLetter_any C _).mono ?_
     rintro e w' ⟨rfl, rfl⟩
     rw [hp]
     go_wp2
     go_ret
     exact ⟨by rw [HE.out]; rfl, by first | trivial | rfl⟩
  · have HE : Hid (runEnd lt cs i = j) := runEnd_is hij hj HJ.out (Or.inl (by omega))
    go_wp2
    go_ret
    exact ⟨by rw [HE.out]; rfl, by first | trivial | rfl⟩
def cutText (cs : List Int) (i j : Nat) : ByteArray := runesBytes ((cs.drop i).take (j - i))
section
variable {w : World} {cs : List Int} {b off cap : Nat}
set_option maxRecDepth 100000 in
set_option maxHeartbeats 1600000 in
theorem piece_any (kd : Int) (i j : Nat) (hij : i < j) (hj : j ≤ cs.length) (hk : cs.length ≤ cap) (hcap : cap ≤ 9223372036854775807) (hc : ∀ m, m < cs.length → w.cell? ⟨b, off + m, none⟩ = some (.int .i32 (cs.getD m 0))) (hlt : b < w.heap.size) :
    Calls Tryz.prog 189 #[.int .u8 kd, .slice (some ⟨b, off, none⟩) cs.length cap, .int .i64 i, .int .i64 j] w fun e w' => e = .returned (.agg #[.int .u8 kd, .string (cutText cs i j), .int .i64 i, .slice none 0 0, .slice none 0 0]) ∧ Below w.heap.size w w' := by
 have kk := below_alloc w (.cells #[.int .u8 0, .string ⟨#[]⟩, .int .i64 0, .slice none 0 0, .slice none 0 0] 151)
 have hcv := run_convert_runes (P := Tryz.prog) (w.alloc (.cells #[.int .u8 0, .string ⟨#[]⟩, .int .i64 0, .slice none 0 0, .slice none 0 0] 151)) 116 9 21 ⟨b, off + i, none⟩ (j - i) (cap - i) (cs.drop i) (by rw [List.length_drop]; omega) Tryz.underlying116 Tryz.underlying21 Tryz.underlying9 (fun m hm => by
  have hm' : m < cs.length - i := by rw [← List.length_drop]; exact hm
  have e : ((⟨b, off + i, none⟩ : Addr).add m) = ⟨b, off + (i + m), none⟩ := by simp [Addr.add, Nat.add_assoc]
  rw [e, (kk.cell (p := ⟨b, off + (i + m), none⟩) hlt), hc (i + m) (by omega)]
  simp [List.getD])
 have HT : Hid (runesBytes ((cs.drop i).take (j - i)) = cutText cs i j) := rfl
 rw [HT.out] at hcv
 generalize cutText cs i j = T at *
 clear HT hc
 have hci : ¬ cap = i := by omega
 have hcj : ¬ i = cap := by omega
 have hcz : ¬ cap - i = 0 := by omega
 go_enter Tryz.func189, Tryz.ntmps189
 go_wp2
 have R := boxA_new w #[.int .u8 kd, .string T, .int .i64 i, .slice none 0 0, .slice none 0 0] 151
 have r0 := R.cell 0 rfl
 have r1 := R.cell 1 rfl
 have r2 := R.cell 2 rfl
 have r3 := R.cell 3 rfl
 have r4 := R.cell 4 rfl
 refine bodyPost_ret (v := .agg #[.int .u8 kd, .string T, .int .i64 i, .slice none 0 0, .slice none 0 0]) (by simp [results, Tryz.results189, go_sem, r0, r1, r2, r3, r4]) rfl ?_
 exact ⟨rfl, below_alloc _ _⟩

def PlainTok (w : World) (kd : Int) (T : ByteArray) (i j : Nat) (e : Ending) (w' : World) : Prop :=
 e = .returned (.tuple #[.agg #[.int .u8 kd, .string T, .int .i64 i, .slice none 0 0, .slice none 0 0], .int .i64 j, .int .i64 0]) ∧ Below w.heap.size w w'

set_option maxRecDepth 100000 in
set_option maxHeartbeats 6400000 in
theorem nameAt_any (i : Nat) (hi : i < cs.length) (hk : cs.length ≤ cap) (hcap : cap ≤ 9223372036854775807) (hc : ∀ m, m < cs.length → w.cell? ⟨b, off + m, none⟩ = some (.int .i32 (cs.getD m 0))) (hlt : b < w.heap.size) (hfirst : inm (cs.getD i 0) = true) :
    Calls Tryz.prog 187 #[.slice (some ⟨b, off, none⟩) cs.length cap, .int .i64 i] w fun e w' =>
     (runEnd inm cs i - i ≤ 32 ∧ PlainTok w 3 (cutText cs i (runEnd inm cs i)) i (runEnd inm cs i) e w') ∨ (32 < runEnd inm cs i - i ∧ e = .returned (.tuple #[.agg #[.int .u8 0, .string ⟨#[]⟩, .int .i64 0, .slice none 0 0, .slice none 0 0], .int .i64 0, .int .i64 27]) ∧ Below w.heap.size w w') := by
 have hle := runEnd_le inm cs i (by omega)
 have hgt : i < runEnd inm cs i := by
  unfold runEnd
  rw [List.drop_eq_getElem_cons hi]
  have e : cs.getD i 0 = cs[i] := by simp [List.getD, hi]
  rw [e] at hfirst
  rw [List.takeWhile_cons, if_pos hfirst, List.length_cons]
  omega
 have k0 := below_alloc w (.cells #[.int .u8 0, .string ⟨#[]⟩, .int .i64 0, .slice none 0 0, .slice none 0 0] 151)
 have R := boxA_new w #[.int .u8 0, .string ⟨#[]⟩, .int .i64 0, .slice none 0 0, .slice none 0 0] 151
 have s0 : w.heap.size < (w.alloc (.cells #[.int .u8 0, .string ⟨#[]⟩, .int .i64 0, .slice none 0 0, .slice none 0 0] 151)).heap.size := by simp
 have HC : Hid (∀ m, m < cs.length → (w.alloc (.cells #[.int .u8 0, .string ⟨#[]⟩, .int .i64 0, .slice none 0 0, .slice none 0 0] 151)).cell? ⟨b, off + m, none⟩ = some (.int .i32 (cs.getD m 0))) := fun m hm => (k0.cell (p := ⟨b, off + m, none⟩) hlt).trans (hc m hm)
 clear hc hfirst
 go_enter Tryz.func187, Tryz.ntmps187
 go_wp2_with fail
 generalize hA : w.alloc (.cells #[.int .u8 0, .string ⟨#[]⟩, .int .i64 0, .slice none 0 0, .slice none 0 0] 151) = v at *
 clear hA
 have hR : RdR v.heap.size v (.slice (some ⟨b, off, none⟩) cs.length cap) cs := ⟨_, cap, rfl, hk, hcap, Or.inr ⟨b, off, rfl, by omega, HC.out⟩⟩
 refine (run_name hR i (by omega)).mono ?_
 rintro e w1 ⟨rfl, rfl⟩
 have q0 := R.cell 0 rfl
 have q1 := R.cell 1 rfl
 have q2 := R.cell 2 rfl
 have q3 := R.cell 3 rfl
 have q4 := R.cell 4 rfl
 have o0 := R.frozen 0
 have o1 := R.frozen 1
 have o2 := R.frozen 2
 have o3 := R.frozen 3
 have o4 := R.frozen 4
 obtain ⟨j, hj⟩ : ∃ j, runEnd inm cs i = j := ⟨_, rfl⟩
 have HJ : Hid (runEnd inm cs i = j) := hj
 rw [hj] at hle hgt ⊢
 clear hj
 by_cases h32 : j - i ≤ 32
 · clear q0 q1 q2 q3 q4 o0 o1 o2 o3 o4
   go_wp2_with fail
   refine (piece_any 3 i j hgt hle.2 hk hcap HC.out (by omega)).mono ?_
   rintro e w2 ⟨rfl, k2⟩
   have R2 := R.below k2 s0
   have q0 := R2.cell 0 rfl
   have q1 := R2.cell 1 rfl
   have q2 := R2.cell 2 rfl
   have q3 := R2.cell 3 rfl
   have q4 := R2.cell 4 rfl
   have o0 := R2.frozen 0
   have o1 := R2.frozen 1
   have o2 := R2.frozen 2
   have o3 := R2.frozen 3
   have o4 := R2.frozen 4
   obtain ⟨T, hT⟩ : ∃ T, cutText cs i j = T := ⟨_, rfl⟩
   have HT : Hid (cutText cs i j = T) := hT
   rw [hT]
   clear hT
   go_wp2
   have R8 := R2.set5 (.int .u8 3) (.string T) (.int .i64 i) (.slice none 0 0) (.slice none 0 0)
   have x0 := R8.cell 0 rfl
   have x1 := R8.cell 1 rfl
   have x2 := R8.cell 2 rfl
   have x3 := R8.cell 3 rfl
   have x4 := R8.cell 4 rfl
   refine bodyPost_ret (v := .tuple #[.agg #[.int .u8 3, .string T, .int .i64 i, .slice none 0 0, .slice none 0 0], .int .i64 j, .int .i64 0]) (by simp [results, Tryz.results187, go_sem, x0, x1, x2, x3, x4]) rfl ?_
   refine Or.inl ⟨by rw [HJ.out]; exact h32, ?_, Below.set5 (k0.trans (k2.mono (by omega))) (Nat.le_refl _) _ _ _ _ _⟩
   rw [HJ.out, HT.out]
 · go_wp2
   have R8 := R.set5 (.int .u8 0) (.string ⟨#[]⟩) (.int .i64 0) (.slice none 0 0) (.slice none 0 0)
   have x0 := R8.cell 0 rfl
   have x1 := R8.cell 1 rfl
   have x2 := R8.cell 2 rfl
   have x3 := R8.cell 3 rfl
   have x4 := R8.cell 4 rfl
   refine bodyPost_ret (v := .tuple #[.agg #[.int .u8 0, .string ⟨#[]⟩, .int .i64 0, .slice none 0 0, .slice none 0 0], .int .i64 0, .int .i64 27]) (by simp [results, Tryz.results187, go_sem, x0, x1, x2, x3, x4]) rfl ?_
   exact Or.inr ⟨by rw [HJ.out]; omega, rfl, Below.set5 k0 (Nat.le_refl _) _ _ _ _ _⟩
end
end Go.Proofs.YtimfnalpmmkndaaGreatDoor

/- lex.literal: what characters in quotes are. -/
namespace Go.Proofs.YtimfnalpmmkndaaGreatDoor
set_option linter.unusedVariables false
set_option linter.unusedSimpArgs false
open Go.RowKit Go.Shelf

section
variable {w : World} {cs : List Int} {b off cap : Nat}
set_option maxRecDepth 100000 in
set_option maxHeartbeats 1600000 in
theorem literal_one (c : Int) (hk : 1 ≤ cap) (hcap : cap ≤ 9223372036854775807) (hc : w.cell? ⟨b, off, none⟩ = some (.int .i32 c)) (hlt : b < w.heap.size) (hv : (0 ≤ c ∧ c < 55296) ∨ (57343 < c ∧ c ≤ 1114111)) :
    Calls Tryz.prog 204 #[.slice (some ⟨b, off, none⟩) 1 cap] w fun e w' => ∃ k, e = .returned (.agg #[.slice none 0 0, .slice (some ⟨k, 0, none⟩) 1 1]) ∧ w.heap.size ≤ k ∧ BoxA w' k 113 #[.int .u8 2, .bool false, .slice none 0 0, .slice none 0 0, .int .i32 c, .slice none 0 0] ∧ Below w.heap.size w w' := by
 have k0 := below_alloc w (.cells #[.slice none 0 0, .slice none 0 0] 29)
 have RA := boxA_new w #[.slice none 0 0, .slice none 0 0] 29
 have s0 : (w.alloc (.cells #[.slice none 0 0, .slice none 0 0] 29)).heap.size = w.heap.size + 1 := by simp
 have hc0 := (k0.cell (p := ⟨b, off, none⟩) hlt).trans hc
 go_enter Tryz.func204, Tryz.ntmps204
 go_wp2_with fail
 generalize w.alloc (.cells #[.slice none 0 0, .slice none 0 0] 29) = w0 at *
 refine (char_any c w0 hv).mono ?_
 rintro e w3 ⟨k, rfl, hk, hB, k3⟩
 have R3 := RA.below k3 (by omega)
 have kW : Below w.heap.size w w3 := k0.trans (k3.mono (by omega))
 have q0 := R3.frozen 0
 have q1 := R3.frozen 1
 have q2 := R3.cell 0 rfl
 have q3 := R3.cell 1 rfl
 go_wp2
 have R4 := R3.set2 (.slice none 0 0) (.slice (some ⟨k, 0, none⟩) 1 1)
 have x0 := R4.cell 0 rfl
 have x1 := R4.cell 1 rfl
 refine bodyPost_ret (v := .agg #[.slice none 0 0, .slice (some ⟨k, 0, none⟩) 1 1]) (by simp [results, Tryz.results204, go_sem, x0, x1]) rfl ?_
 exact ⟨k, rfl, by omega, (hB.other (p := ⟨w.heap.size, 0, none⟩) (show w.heap.size ≠ k by omega) _).other (p := ⟨w.heap.size, 1, none⟩) (show w.heap.size ≠ k by omega) _, (kW.setCell (p := ⟨w.heap.size, 0, none⟩) (Nat.le_refl _) _).setCell (p := ⟨w.heap.size, 1, none⟩) (Nat.le_refl _) _⟩

set_option maxRecDepth 100000 in
set_option maxHeartbeats 1600000 in
theorem literal_many (hn : ¬ cs.length = 1) (hk : cs.length ≤ cap) (hcap : cap ≤ 9223372036854775807) (hc : ∀ m, m < cs.length → w.cell? ⟨b, off + m, none⟩ = some (.int .i32 (cs.getD m 0))) (hlt : b < w.heap.size) (hT : (runesBytes cs).size ≤ 9223372036854775807) :
    Calls Tryz.prog 204 #[.slice (some ⟨b, off, none⟩) cs.length cap] w fun e w' => ∃ v, e = .returned v ∧ TextAt w.heap.size w' v ((decs (runesBytes cs) (runesBytes cs).size 0).take 4096) ∧ Below w.heap.size w w' := by
 have k0 := below_alloc w (.cells #[.slice none 0 0, .slice none 0 0] 29)
 have RA := boxA_new w #[.slice none 0 0, .slice none 0 0] 29
 have s0 : (w.alloc (.cells #[.slice none 0 0, .slice none 0 0] 29)).heap.size = w.heap.size + 1 := by simp
 have hcv := run_convert_runes (P := Tryz.prog) (w.alloc (.cells #[.slice none 0 0, .slice none 0 0] 29)) 116 9 21 ⟨b, off, none⟩ cs.length cap cs (Nat.le_refl _) Tryz.underlying116 Tryz.underlying21 Tryz.underlying9 (fun m hm => by
  have e : ((⟨b, off, none⟩ : Addr).add m) = ⟨b, off + m, none⟩ := by simp [Addr.add]
  rw [e, (k0.cell (p := ⟨b, off + m, none⟩) hlt), hc m hm])
 rw [List.take_length] at hcv
 generalize runesBytes cs = T at *
 have hd : decide (((cs.length : Nat) : Int) = 1) = false := decide_eq_false (by omega)
 clear hc
 go_enter Tryz.func204, Tryz.ntmps204
 go_wp2_with fail
 generalize w.alloc (.cells #[.slice none 0 0, .slice none 0 0] 29) = w0 at *
 refine (text_any T w0 hT).mono ?_
 rintro e w3 ⟨v, rfl, hA, k3⟩
 obtain ⟨g1, v2, rfl, h1, h2, h3⟩ := hA.form
 obtain ⟨a2, n2, c2, rfl⟩ : ∃ a2 n2 c2, v2 = .slice a2 n2 c2 := by
  rcases h3 with ⟨_, g2, rfl, _⟩ | ⟨_, h⟩
  · exact ⟨_, _, _, rfl⟩
  · obtain ⟨a, c, rfl⟩ := row_form2 h; exact ⟨_, _, _, rfl⟩
 clear h2 h3
 rw [s0] at hA
 have HY : Hid (TextAt (w.heap.size + 1) w3 (.agg #[.slice (some ⟨g1, 0, none⟩) 1 1, .slice a2 n2 c2]) ((decs T T.size 0).take 4096)) := hA
 clear hA
 have R3 := RA.below k3 (by omega)
 have kW : Below w.heap.size w w3 := k0.trans (k3.mono (by omega))
 have q0 := R3.frozen 0
 have q1 := R3.frozen 1
 have q2 := R3.cell 0 rfl
 have q3 := R3.cell 1 rfl
 go_wp2
 have R4 := R3.set2 (.slice (some ⟨g1, 0, none⟩) 1 1) (.slice a2 n2 c2)
 have x0 := R4.cell 0 rfl
 have x1 := R4.cell 1 rfl
 refine bodyPost_ret (v := .agg #[.slice (some ⟨g1, 0, none⟩) 1 1, .slice a2 n2 c2]) (by simp [results, Tryz.results204, go_sem, x0, x1]) rfl ?_
 exact ⟨_, rfl, ((HY.out.setC 0 _).setC 1 _).mono (by omega), (kW.setCell (p := ⟨w.heap.size, 0, none⟩) (Nat.le_refl _) _).setCell (p := ⟨w.heap.size, 1, none⟩) (Nat.le_refl _) _⟩
end
end Go.Proofs.YtimfnalpmmkndaaGreatDoor

/- lex.textAt. -/
namespace Go.Proofs.YtimfnalpmmkndaaGreatDoor
set_option linter.unusedVariables false
set_option linter.unusedSimpArgs false
open Go.RowKit Go.Shelf

def qscan (cs : List Int) : Nat → Nat → List Int → Option (List Int × Nat)
 | 0, _, _ => none
 | f + 1, i, acc => if i < cs.length then
     if cs.getD i 0 = 39 then
      if i + 1 = cs.length ∨ ¬ cs.getD (i + 1) 0 = 39 then some (acc, i + 1) else qscan cs f (i + 2) (acc ++ [39])
     else qscan cs f (i + 1) (acc ++ [cs.getD i 0])
  else none
def TwoSl (v : Value) : Prop := ∃ a1 n1 c1 a2 n2 c2, v = .agg #[.slice a1 n1 c1, .slice a2 n2 c2]
theorem TextAt.two {b : Nat} {W : World} {v : Value} {ys : List Int} (h : TextAt b W v ys) : TwoSl v := by
 obtain ⟨g1, v2, rfl, h1, h2, h3⟩ := h.form
 rcases h3 with ⟨_, g2, rfl, _⟩ | ⟨_, h⟩
 · exact ⟨_, _, _, _, _, _, rfl⟩
 · obtain ⟨a, c, rfl⟩ := row_form2 h; exact ⟨_, _, _, _, _, _, rfl⟩

theorem getD_mem {l : List Int} {i : Nat} (h : i < l.length) : l.getD i 0 ∈ l := by
 rw [show l.getD i 0 = l[i] by simp [List.getD, h]]; exact List.getElem_mem h
section
variable {w : World} {cs : List Int} {b off cap : Nat}
set_option maxRecDepth 100000 in
set_option maxHeartbeats 1600000 in
theorem literal_none : Calls Tryz.prog 204 #[.slice none 0 0] w fun e w' => ∃ v, e = .returned v ∧ TwoSl v ∧ Below w.heap.size w w' := by
 have k0 := below_alloc w (.cells #[.slice none 0 0, .slice none 0 0] 29)
 have RA := boxA_new w #[.slice none 0 0, .slice none 0 0] 29
 have s0 : (w.alloc (.cells #[.slice none 0 0, .slice none 0 0] 29)).heap.size = w.heap.size + 1 := by simp
 have hcv : ∀ W : World, (convert 116 9 (.slice none 0 0)).run Tryz.prog W = .ok (.string ⟨#[]⟩) W := fun W => by
  rw [run_convert_runes_string W _ _ _ none 0 0 Tryz.underlying116 Tryz.underlying21 Tryz.underlying9]
  simp [Conv.runesToString, go_sem]
  rfl
 go_enter Tryz.func204, Tryz.ntmps204
 go_wp2_with fail
 generalize w.alloc (.cells #[.slice none 0 0, .slice none 0 0] 29) = w0 at *
 refine (text_any _ w0 (by decide)).mono ?_
 rintro e w3 ⟨v, rfl, hA, k3⟩
 obtain ⟨a1, n1, c1, a2, n2, c2, rfl⟩ := hA.two
 clear hA
 have R3 := RA.below k3 (by omega)
 have kW : Below w.heap.size w w3 := k0.trans (k3.mono (by omega))
 have q0 := R3.frozen 0
 have q1 := R3.frozen 1
 have q2 := R3.cell 0 rfl
 have q3 := R3.cell 1 rfl
 go_wp2
 have R4 := R3.set2 (.slice a1 n1 c1) (.slice a2 n2 c2)
 have x0 := R4.cell 0 rfl
 have x1 := R4.cell 1 rfl
 refine bodyPost_ret (v := .agg #[.slice a1 n1 c1, .slice a2 n2 c2]) (by simp [results, Tryz.results204, go_sem, x0, x1]) rfl ?_
 exact ⟨_, rfl, ⟨_, _, _, _, _, _, rfl⟩, (kW.setCell (p := ⟨w.heap.size, 0, none⟩) (Nat.le_refl _) _).setCell (p := ⟨w.heap.size, 1, none⟩) (Nat.le_refl _) _⟩
def okRune (c : Int) : Prop := (0 ≤ c ∧ c < 55296) ∨ (57343 < c ∧ c ≤ 1114111)
theorem literal_own {base : Nat} {v : Value} {acc : List Int} (h : OwnR base w v acc) (hok : ∀ c ∈ acc, okRune c) (hl : acc.length ≤ 1000000) : Calls Tryz.prog 204 #[v] w fun e w' => ∃ v, e = .returned v ∧ TwoSl v ∧ Below w.heap.size w w' := by
 have hrow := h
 obtain ⟨_, h | ⟨g, cap, cur, hv, hg, hh, h1, h2, _, _⟩⟩ := h
 · rw [h.1]; exact literal_none
 · subst hv
   have hc : ∀ j, j < acc.length → w.cell? ⟨g, 0 + j, none⟩ = some (.int .i32 (acc.getD j 0)) := fun j hj => by
    have := hrow.cellAt j (by omega)
    rw [Nat.zero_add, this]
    simp [List.getD, hj]
   have hcap : cap ≤ 9223372036854775807 := by unfold maxLen at h2; omega
   by_cases h1l : acc.length = 1
   · have hv := hok (acc.getD 0 0) (getD_mem (by omega))
     have h0 := hc 0 (by omega)
     rw [h1l]
     refine (literal_one (acc.getD 0 0) (by omega) hcap h0 (lt_of_block hh) hv).mono ?_
     rintro e w' ⟨k, rfl, _, _, hb⟩
     exact ⟨_, rfl, ⟨_, _, _, _, _, _, rfl⟩, hb⟩
   · refine (literal_many h1l h1 hcap hc (lt_of_block hh) (by have := runesBytes_size_le acc; omega)).mono ?_
     rintro e w' ⟨v, rfl, ht, hb⟩
     exact ⟨_, rfl, ht.two, hb⟩

theorem ok_app {acc : List Int} {c : Int} (h : ∀ d ∈ acc, okRune d) (hc : okRune c) : ∀ d ∈ acc ++ [c], okRune d := by
 intro d hd
 rcases List.mem_append.1 hd with h' | h'
 · exact h d h'
 · rw [List.mem_singleton.1 h']; exact hc
set_option maxRecDepth 100000 in
set_option maxHeartbeats 6400000 in
theorem textAt_any (at' : Nat) (hat : at' < cs.length) (hl : cs.length ≤ 1000000) (hk : cs.length ≤ cap) (hcap : cap ≤ 9223372036854775807) (hc : ∀ m, m < cs.length → w.cell? ⟨b, off + m, none⟩ = some (.int .i32 (cs.getD m 0))) (hlt : b < w.heap.size) (hok : ∀ c ∈ cs, okRune c) :
    Calls Tryz.prog 185 #[.slice (some ⟨b, off, none⟩) cs.length cap, .int .i64 at'] w fun e w' =>
     (∃ acc j, qscan cs cs.length (at' + 1) [] = some (acc, j) ∧ ∃ a1 n1 c1 a2 n2 c2, e = .returned (.tuple #[.agg #[.int .u8 2, .string (cutText cs at' j), .int .i64 at', .slice a1 n1 c1, .slice a2 n2 c2], .int .i64 j, .int .i64 0]) ∧ Below w.heap.size w w') ∨
     (qscan cs cs.length (at' + 1) [] = none ∧ e = .returned (.tuple #[.agg #[.int .u8 0, .string ⟨#[]⟩, .int .i64 0, .slice none 0 0, .slice none 0 0], .int .i64 0, .int .i64 26]) ∧ Below w.heap.size w w') := by
 obtain ⟨i0, hi, hz0, hz1, hz2⟩ := info_parts info_i32
 have k0 := below_alloc w (.cells #[.int .u8 0, .string ⟨#[]⟩, .int .i64 0, .slice none 0 0, .slice none 0 0] 151)
 have RT := boxA_new w #[.int .u8 0, .string ⟨#[]⟩, .int .i64 0, .slice none 0 0, .slice none 0 0] 151
 have s0 : (w.alloc (.cells #[.int .u8 0, .string ⟨#[]⟩, .int .i64 0, .slice none 0 0, .slice none 0 0] 151)).heap.size = w.heap.size + 1 := by simp
 have HC : Hid (∀ m, m < cs.length → (w.alloc (.cells #[.int .u8 0, .string ⟨#[]⟩, .int .i64 0, .slice none 0 0, .slice none 0 0] 151)).cell? ⟨b, off + m, none⟩ = some (.int .i32 (cs.getD m 0))) := fun m hm => (k0.cell (p := ⟨b, off + m, none⟩) hlt).trans (hc m hm)
 have HOK : Hid (∀ c ∈ cs, okRune c) := hok
 clear hc hok
 go_enter Tryz.func185, Tryz.ntmps185
 go_wp2_with fail
 generalize w.alloc (.cells #[.int .u8 0, .string ⟨#[]⟩, .int .i64 0, .slice none 0 0, .slice none 0 0] 151) = w0 at *
 go_loopw [7, 8] (fun ct iv wr => ∃ (i f : Nat) (acc : List Int) (a : Option Addr) (c : Nat), ct = .slice a acc.length c ∧ iv = .int .i64 i ∧ OwnR (w.heap.size + 1) wr (.slice a acc.length c) acc ∧ Hid (qscan cs f i acc = qscan cs cs.length (at' + 1) []) ∧ Hid (∀ c ∈ acc, okRune c) ∧ cs.length ≤ i + f ∧ at' < i ∧ acc.length ≤ i ∧ i ≤ cs.length ∧ Below (w.heap.size + 1) w0 wr) (fun _ iv _ => cs.length - (intOf iv).toNat)
 case atStart => exact ⟨at' + 1, cs.length, [], none, 0, rfl, by go_num, World.ownsRow_nil _ _ _ _, rfl, (fun c h => by cases h), by omega, by omega, by simp, by omega, by rw [← s0]; exact Below.refl _ _⟩
 case round =>
  obtain ⟨i, f, acc, a, c, rfl, rfl, hO, HQ, HA, hf, hai, hacc, hile, hb⟩ := hrel
  have hsz := hb.size
  by_cases hil : i < cs.length
  · obtain ⟨f, rfl⟩ : ∃ f', f = f' + 1 := ⟨f - 1, by omega⟩
    have hci := (hb.cell (p := ⟨b, off + i, none⟩) (show b < w.heap.size + 1 by omega)).trans (HC.out i hil)
    have HI : Hid (okRune (cs.getD i 0)) := HOK.out _ (getD_mem hil)
    by_cases h39 : cs.getD i 0 = 39
    · rw [h39] at hci
      have HCr : Hid (∀ m, m < cs.length → wr.cell? ⟨b, off + m, none⟩ = some (.int .i32 (cs.getD m 0))) := fun m hm => (hb.cell (p := ⟨b, off + m, none⟩) (show b < w.heap.size + 1 by omega)).trans (HC.out m hm)
      by_cases hend : i + 1 = cs.length
      · have HE : Hid (qscan cs cs.length (at' + 1) [] = some (acc, i + 1)) := by
         unfold Hid
         rw [← HQ.out, qscan, if_pos hil, if_pos h39, if_pos (Or.inl hend)]
        have he1 : (((i : Int) + 1) == ((cs.length : Nat) : Int)) = true := by rw [beq_iff_eq]; omega
        have he2 : decide (((i : Int) + 1) = ((cs.length : Nat) : Int)) = true := decide_eq_true (by omega)
        clear hend
        go_wp2_with fail
        have hp := piece_any (w := wr) 2 at' (i + 1) (by omega) (by omega) hk hcap HCr.out (by omega)
        rw [show (((i + 1 : Nat)) : Int) = (i : Int) + 1 from rfl] at hp
        refine hp.mono ?_
        clear hp
        rintro e w2 ⟨rfl, k2⟩
        obtain ⟨T, hTT⟩ : ∃ T, cutText cs at' (i + 1) = T := ⟨_, rfl⟩
        have HTc : Hid (cutText cs at' (i + 1) = T) := hTT
        rw [hTT]
        clear hTT
        have s2 := k2.size
        have kt := below_alloc w2 (.cells #[.int .u8 2, .string T, .int .i64 at', .slice none 0 0, .slice none 0 0] 151)
        have Tk := boxA_new w2 #[.int .u8 2, .string T, .int .i64 at', .slice none 0 0, .slice none 0 0] 151
        have st : (w2.alloc (.cells #[.int .u8 2, .string T, .int .i64 at', .slice none 0 0, .slice none 0 0] 151)).heap.size = w2.heap.size + 1 := by simp
        have hO3 := (OwnR.below hO k2 (Nat.le_refl _)).below kt (Nat.le_refl _)
        go_wp2_with fail
        generalize hA : w2.alloc (.cells #[.int .u8 2, .string T, .int .i64 at', .slice none 0 0, .slice none 0 0] 151) = w3 at *
        clear hA
        refine (literal_own hO3 HA.out (by omega)).mono ?_
        rintro e w6 ⟨v6, rfl, ⟨a1, n1, c1, a2, n2, c2, rfl⟩, k6⟩
        have s6 := k6.size
        have Tk6 := Tk.below k6 (by omega)
        have q3 := Tk6.cell 3 rfl
        have q4 := Tk6.cell 4 rfl
        have f3 := Tk6.frozen 3
        have f4 := Tk6.frozen 4
        have Tk7 := Tk6.set34 (.slice a1 n1 c1) (.slice a2 n2 c2)
        have m0 := Tk7.cell 0 rfl
        have m1 := Tk7.cell 1 rfl
        have m2 := Tk7.cell 2 rfl
        have m3 := Tk7.cell 3 rfl
        have m4 := Tk7.cell 4 rfl
        have T6 : Below w.heap.size w w6 := (((k0.trans (hb.mono (by omega))).trans (k2.mono (by omega))).trans (kt.mono (by omega))).trans (k6.mono (by omega))
        have R6 := (((RT.below hb (by omega)).below k2 (by omega)).below kt (by omega)).below k6 (by omega)
        have hRT : w2.heap.size ≠ w.heap.size := by omega
        have R7 := (R6.other (p := ⟨w2.heap.size, 3, none⟩) hRT (.slice a1 n1 c1)).other (p := ⟨w2.heap.size, 4, none⟩) hRT (.slice a2 n2 c2)
        have n0 := R7.cell 0 rfl
        have n1' := R7.cell 1 rfl
        have n2' := R7.cell 2 rfl
        have n3 := R7.cell 3 rfl
        have n4 := R7.cell 4 rfl
        have o0 := R7.frozen 0
        have o1 := R7.frozen 1
        have o2 := R7.frozen 2
        have o3 := R7.frozen 3
        have o4 := R7.frozen 4
        go_wp2
        have R8 := R7.set5 (.int .u8 2) (.string T) (.int .i64 at') (.slice a1 n1 c1) (.slice a2 n2 c2)
        have x0 := R8.cell 0 rfl
        have x1 := R8.cell 1 rfl
        have x2 := R8.cell 2 rfl
        have x3 := R8.cell 3 rfl
        have x4 := R8.cell 4 rfl
        refine bodyPost_ret (v := .tuple #[.agg #[.int .u8 2, .string T, .int .i64 at', .slice a1 n1 c1, .slice a2 n2 c2], .int .i64 ((i : Int) + 1), .int .i64 0]) (by simp [results, Tryz.results185, go_sem, x0, x1, x2, x3, x4]) rfl ?_
        refine Or.inl ⟨acc, i + 1, HE.out, a1, n1, c1, a2, n2, c2, by rw [HTc.out]; rfl, ?_⟩
        exact Below.set5 ((T6.setCell (p := ⟨w2.heap.size, 3, none⟩) (show w.heap.size ≤ w2.heap.size by omega) _).setCell (p := ⟨w2.heap.size, 4, none⟩) (show w.heap.size ≤ w2.heap.size by omega) _) (Nat.le_refl _) _ _ _ _ _
      have hcj := HCr.out (i + 1) (by omega)
      by_cases hd39 : cs.getD (i + 1) 0 = 39
      · rw [hd39] at hcj
        have HS : Hid (qscan cs f (i + 2) (acc ++ [39]) = qscan cs cs.length (at' + 1) []) := by
         unfold Hid
         rw [← HQ.out, qscan, if_pos hil, if_pos h39, if_neg (by omega)]
        go_wp2_with (at_builtin; refine wpList_append_own _ rfl _ _ 116 rfl (w.heap.size + 1) 21 i0 (.int .i32 0) 1 4 Tryz.underlying116 hi hz0 hz1 hz2 rfl (by decide) _ _ _ rfl (hO.alloc _) ⟨wr.heap.size, 0, none⟩ 1 1 [.int .i32 39] rfl rfl ?c1 ?c2 ?c3 ?c4 ?c5 ?_)
        case c1 =>
         intro j u hj
         match j, hj with
         | 0, hj => simp at hj; subst hj; simp [Addr.add]
        case c2 => intro u hu; simp at hu; subst hu; rfl
        case c3 => unfold maxLen; omega
        case c4 => omega
        case c5 => simp; omega
        intro v' w1 hown' hgrow _
        have hO3 : OwnR (w.heap.size + 1) w1 v' (acc ++ [39]) := by
         unfold OwnR
         rw [List.length_append, List.map_append]; exact hown'
        obtain ⟨a2, c2, rfl⟩ := hO3.form
        have hrow : ∀ k, (Value.slice a acc.length c).ownBlock = some k → w.heap.size + 1 ≤ k := fun k hk => (hO.lt k hk).1
        have hb3 : Below (w.heap.size + 1) w0 w1 := (hb.alloc (by omega) _).grown hgrow (by simp; omega) (fun k hk => by have := hrow k hk; omega)
        clear hown' hgrow hO hrow
        go_wp2
        go_roundw
        case rel => exact ⟨i + 2, f, acc ++ [39], a2, c2, (by first | rfl | simp), by go_num, hO3, HS, (ok_app HA.out (by unfold okRune; omega)), by omega, by omega, (by simp; omega), by omega, hb3⟩
        case measure => simp [intOf]; omega
      generalize hD : cs.getD (i + 1) 0 = DC at *
      have HE : Hid (qscan cs cs.length (at' + 1) [] = some (acc, i + 1)) := by
       unfold Hid
       rw [← HQ.out, qscan, if_pos hil, if_pos h39, hD, if_pos (Or.inr hd39)]
      have he1 : (((i : Int) + 1) == ((cs.length : Nat) : Int)) = false := by rw [beq_eq_false_iff_ne]; omega
      have he2 : (DC != 39) = true := by rw [bne_iff_ne]; exact hd39
      go_wp2_with fail
      have hp := piece_any (w := wr) 2 at' (i + 1) (by omega) (by omega) hk hcap HCr.out (by omega)
      rw [show (((i + 1 : Nat)) : Int) = (i : Int) + 1 from rfl] at hp
      refine hp.mono ?_
      clear hp
      rintro e w2 ⟨rfl, k2⟩
      obtain ⟨T, hTT⟩ : ∃ T, cutText cs at' (i + 1) = T := ⟨_, rfl⟩
      have HTc : Hid (cutText cs at' (i + 1) = T) := hTT
      rw [hTT]
      clear hTT
      have s2 := k2.size
      have kt := below_alloc w2 (.cells #[.int .u8 2, .string T, .int .i64 at', .slice none 0 0, .slice none 0 0] 151)
      have Tk := boxA_new w2 #[.int .u8 2, .string T, .int .i64 at', .slice none 0 0, .slice none 0 0] 151
      have st : (w2.alloc (.cells #[.int .u8 2, .string T, .int .i64 at', .slice none 0 0, .slice none 0 0] 151)).heap.size = w2.heap.size + 1 := by simp
      have hO3 := (OwnR.below hO k2 (Nat.le_refl _)).below kt (Nat.le_refl _)
      go_wp2_with fail
      generalize hA : w2.alloc (.cells #[.int .u8 2, .string T, .int .i64 at', .slice none 0 0, .slice none 0 0] 151) = w3 at *
      clear hA
      refine (literal_own hO3 HA.out (by omega)).mono ?_
      rintro e w6 ⟨v6, rfl, ⟨a1, n1, c1, a2, n2, c2, rfl⟩, k6⟩
      have s6 := k6.size
      have Tk6 := Tk.below k6 (by omega)
      have q3 := Tk6.cell 3 rfl
      have q4 := Tk6.cell 4 rfl
      have f3 := Tk6.frozen 3
      have f4 := Tk6.frozen 4
      have Tk7 := Tk6.set34 (.slice a1 n1 c1) (.slice a2 n2 c2)
      have m0 := Tk7.cell 0 rfl
      have m1 := Tk7.cell 1 rfl
      have m2 := Tk7.cell 2 rfl
      have m3 := Tk7.cell 3 rfl
      have m4 := Tk7.cell 4 rfl
      have T6 : Below w.heap.size w w6 := (((k0.trans (hb.mono (by omega))).trans (k2.mono (by omega))).trans (kt.mono (by omega))).trans (k6.mono (by omega))
      have R6 := (((RT.below hb (by omega)).below k2 (by omega)).below kt (by omega)).below k6 (by omega)
      have hRT : w2.heap.size ≠ w.heap.size := by omega
      have R7 := (R6.other (p := ⟨w2.heap.size, 3, none⟩) hRT (.slice a1 n1 c1)).other (p := ⟨w2.heap.size, 4, none⟩) hRT (.slice a2 n2 c2)
      have n0 := R7.cell 0 rfl
      have n1' := R7.cell 1 rfl
      have n2' := R7.cell 2 rfl
      have n3 := R7.cell 3 rfl
      have n4 := R7.cell 4 rfl
      have o0 := R7.frozen 0
      have o1 := R7.frozen 1
      have o2 := R7.frozen 2
      have o3 := R7.frozen 3
      have o4 := R7.frozen 4
      go_wp2
      have R8 := R7.set5 (.int .u8 2) (.string T) (.int .i64 at') (.slice a1 n1 c1) (.slice a2 n2 c2)
      have x0 := R8.cell 0 rfl
      have x1 := R8.cell 1 rfl
      have x2 := R8.cell 2 rfl
      have x3 := R8.cell 3 rfl
      have x4 := R8.cell 4 rfl
      refine bodyPost_ret (v := .tuple #[.agg #[.int .u8 2, .string T, .int .i64 at', .slice a1 n1 c1, .slice a2 n2 c2], .int .i64 ((i : Int) + 1), .int .i64 0]) (by simp [results, Tryz.results185, go_sem, x0, x1, x2, x3, x4]) rfl ?_
      refine Or.inl ⟨acc, i + 1, HE.out, a1, n1, c1, a2, n2, c2, by rw [HTc.out]; rfl, ?_⟩
      exact Below.set5 ((T6.setCell (p := ⟨w2.heap.size, 3, none⟩) (show w.heap.size ≤ w2.heap.size by omega) _).setCell (p := ⟨w2.heap.size, 4, none⟩) (show w.heap.size ≤ w2.heap.size by omega) _) (Nat.le_refl _) _ _ _ _ _
    generalize hC : cs.getD i 0 = C at *
    have HS : Hid (qscan cs f (i + 1) (acc ++ [C]) = qscan cs cs.length (at' + 1) []) := by
     unfold Hid
     rw [← HQ.out, qscan, if_pos hil, hC, if_neg h39]
    go_wp2_with (at_builtin; refine wpList_append_own _ rfl _ _ 116 rfl (w.heap.size + 1) 21 i0 (.int .i32 0) 1 4 Tryz.underlying116 hi hz0 hz1 hz2 rfl (by decide) _ _ _ rfl (hO.alloc _) ⟨wr.heap.size, 0, none⟩ 1 1 [.int .i32 C] rfl rfl ?c1 ?c2 ?c3 ?c4 ?c5 ?_)
    case c1 =>
     intro j u hj
     match j, hj with
     | 0, hj => simp at hj; subst hj; simp [Addr.add]
    case c2 => intro u hu; simp at hu; subst hu; rfl
    case c3 => unfold maxLen; omega
    case c4 => omega
    case c5 => simp; omega
    intro v' w1 hown' hgrow _
    have hO3 : OwnR (w.heap.size + 1) w1 v' (acc ++ [C]) := by
     unfold OwnR
     rw [List.length_append, List.map_append]; exact hown'
    obtain ⟨a2, c2, rfl⟩ := hO3.form
    have hrow : ∀ k, (Value.slice a acc.length c).ownBlock = some k → w.heap.size + 1 ≤ k := fun k hk => (hO.lt k hk).1
    have hb3 : Below (w.heap.size + 1) w0 w1 := (hb.alloc (by omega) _).grown hgrow (by simp; omega) (fun k hk => by have := hrow k hk; omega)
    clear hown' hgrow hO hrow
    go_wp2
    go_roundw
    case rel => exact ⟨i + 1, f, acc ++ [C], a2, c2, (by first | rfl | simp), by go_num, hO3, HS, (ok_app HA.out HI.out), by omega, by omega, (by simp; omega), by omega, hb3⟩
    case measure => simp [intOf]; omega
  · have HN : Hid (qscan cs cs.length (at' + 1) [] = none) := by
     unfold Hid
     rw [← HQ.out]
     cases f with
     | zero => rfl
     | succ f => rw [qscan, if_neg hil]
    have R7 := RT.below hb (by omega)
    have n0 := R7.cell 0 rfl
    have n1 := R7.cell 1 rfl
    have n2 := R7.cell 2 rfl
    have n3 := R7.cell 3 rfl
    have n4 := R7.cell 4 rfl
    have o0 := R7.frozen 0
    have o1 := R7.frozen 1
    have o2 := R7.frozen 2
    have o3 := R7.frozen 3
    have o4 := R7.frozen 4
    go_wp2
    have R8 := R7.set5 (.int .u8 0) (.string ⟨#[]⟩) (.int .i64 0) (.slice none 0 0) (.slice none 0 0)
    have x0 := R8.cell 0 rfl
    have x1 := R8.cell 1 rfl
    have x2 := R8.cell 2 rfl
    have x3 := R8.cell 3 rfl
    have x4 := R8.cell 4 rfl
    refine bodyPost_ret (v := .tuple #[.agg #[.int .u8 0, .string ⟨#[]⟩, .int .i64 0, .slice none 0 0, .slice none 0 0], .int .i64 0, .int .i64 26]) (by simp [results, Tryz.results185, go_sem, x0, x1, x2, x3, x4]) rfl ?_
    exact Or.inr ⟨HN.out, rfl, Below.set5 (k0.trans (hb.mono (by omega))) (Nat.le_refl _) _ _ _ _ _⟩
end
end Go.Proofs.YtimfnalpmmkndaaGreatDoor
