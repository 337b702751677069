/-
  THE FOUR PAIRS OF ENDS: the iterator that the operations on spans go over.
-/
import Derived.Test.YtnhieokegidibaaProg
import Derived.RangeFuncNested
import Derived.RangeFuncBound
import Derived.RangeFuncCalls
import Derived.RangeFuncLeaves
import Derived.Shelf.Abstract
import Derived.Shelf.RegionOpen
import Derived.WalkKit
import Derived.OwnWalkIn
import Derived.TacticsInMore
import Derived.LoopNIn
import Derived.LoopIn
import Derived.WalkLawsBesides
import Derived.Lib.Hide

namespace Go.Proofs.Ytnhieokegidibaa
open Go.RowKit Go.Shelf
attribute [local go_sem] Oper.semAt_some

/-- a block's cells stay as they are -/
def KeepC (b : Nat) (A B : World) : Prop := ∀ o v, A.cell? ⟨b, o, none⟩ = some v → B.cell? ⟨b, o, none⟩ = some v
theorem KeepC.t {b : Nat} {A B C : World} (h : KeepC b A B) (k : KeepC b B C) : KeepC b A C := fun o v e => k o v (h o v e)
theorem KeepC.b {b : Nat} {w : World} (W : World) (l : Nat) (o o' : Obj) (_ : w.heap.size ≤ l) (h : W.heap[l]? = some o) (hc : o.isCells = false) (_ : o.isWalk = false) : KeepC b W (W.putObj l o') :=
  fun _ _ e => cell_kept e (grownBy_putObj' W l o') (fun r er => by cases er; exact ⟨o, h, hc⟩)

abbrev encs2 (la ua lb ub : Int) (p : Bool × Bool) : Array Value := #[.int .i64 (cond p.1 ua la), .int .i64 (cond p.2 ub lb)]

set_option maxRecDepth 100000 in
set_option maxHeartbeats 2000000 in
theorem ends1_in (F : Fence) (n : Nat) (hf : F.fn 49) (hro : F.round = none) (hn : 1 ≤ n) (l Ba Bb : Nat) (la ua lb ub : Int) (J Jx : List (Bool × Bool) → World → Prop)
    (hY : ∀ pre x W, J pre W → pre.length < 4 → YieldAt F (n - 1) Try.prog l (encs2 la ua lb ub x) W fun e W' =>
      (e = .returned (.bool true) ∧ J (pre ++ [x]) W' ∧ KeepC Bb W W') ∨ (e = .returned (.bool false) ∧ Jx (pre ++ [x]) W'))
    (W : World) (ha0 : W.cell? ⟨Ba, 0, none⟩ = some (.int .i64 la)) (ha1 : W.cell? ⟨Ba, 1, none⟩ = some (.int .i64 ua)) (hb0 : W.cell? ⟨Bb, 0, none⟩ = some (.int .i64 lb)) (hb1 : W.cell? ⟨Bb, 1, none⟩ = some (.int .i64 ub)) (h0 : J [] W) :
    CallsIn F n Try.prog 49 #[.func (.yield l) #[] #[], .pointer (some ⟨Ba, 0, none⟩), .pointer (some ⟨Bb, 0, none⟩)] W fun e W' => (∃ v, e = .returned v) ∧
      ((∃ ys, ys = [(false, false), (false, true), (true, false), (true, true)] ∧ J ys W') ∨ (∃ pre : List (Bool × Bool), True ∧ Jx pre W')) := by
  have i0 : ∀ (x y : Int) (w : World), (Instr.index 57 (.agg #[.int .i64 x, .int .i64 y]) (.int .i64 0)).run Try.prog w = .ok (.int .i64 x) w := fun x y w => by kernel_rfl
  have i1 : ∀ (x y : Int) (w : World), (Instr.index 57 (.agg #[.int .i64 x, .int .i64 y]) (.int .i64 1)).run Try.prog w = .ok (.int .i64 y) w := fun x y w => by kernel_rfl
  obtain ⟨f1, t1, a1, b1, hy1, hR1⟩ := hY [] (false, false) W h0 (by simp)
  dsimp only [encs2, cond_false, cond_true] at hy1
  refine callsIn_of_wp Try.func49 rfl hf ?_ hro
  simp only [Try.ntmps49, List.size_toArray, List.length_cons, List.length_nil, Nat.reduceAdd, Nat.reduceSub, Array.replicate_succ, Array.replicate_zero, List.push_toArray, List.append_toArray, List.nil_append, List.cons_append]
  gi_wp2
  refine wpIn_loop_rounds 3 ?_
  rw [roundsIn_succ]
  gi_wp2
  refine wpIn_loop_rounds 3 ?_
  rw [roundsIn_succ]
  gi_wp2
  refine hR1.mono ?_
  rintro e W1 (⟨rfl, hJ1, hk1⟩ | ⟨rfl, hx1⟩)
  · obtain ⟨f2, t2, a2, b2, hy2, hR2⟩ := hY _ (false, true) W1 hJ1 (by simp)
    dsimp only [encs2, cond_false, cond_true] at hy2
    gi_wp2
    rw [roundsIn_succ]
    gi_wp2
    refine hR2.mono ?_
    rintro e W2 (⟨rfl, hJ2, hk2⟩ | ⟨rfl, hx2⟩)
    · obtain ⟨f3, t3, a3, b3, hy3, hR3⟩ := hY _ (true, false) W2 hJ2 (by simp)
      dsimp only [encs2, cond_false, cond_true] at hy3
      have c0 := hk2 _ _ (hk1 _ _ hb0)
      have c1 := hk2 _ _ (hk1 _ _ hb1)
      gi_wp2
      rw [roundsIn_succ]
      gi_wp2
      rw [roundsIn_succ]
      gi_wp2
      refine wpIn_loop_rounds 3 ?_
      rw [roundsIn_succ]
      gi_wp2
      refine hR3.mono ?_
      rintro e W3 (⟨rfl, hJ3, hk3⟩ | ⟨rfl, hx3⟩)
      · obtain ⟨f4, t4, a4, b4, hy4, hR4⟩ := hY _ (true, true) W3 hJ3 (by simp)
        dsimp only [encs2, cond_false, cond_true] at hy4
        gi_wp2
        rw [roundsIn_succ]
        gi_wp2
        refine hR4.mono ?_
        rintro e W4 (⟨rfl, hJ4, hk4⟩ | ⟨rfl, hx4⟩)
        · gi_wp2
          rw [roundsIn_succ]
          gi_wp2
          rw [roundsIn_succ]
          gi_wp2
          go_end0
          exact ⟨⟨_, rfl⟩, .inl ⟨_, rfl, hJ4⟩⟩
        · gi_wp2
          refine bodyPost_ret (results_none rfl _ _ _) rfl ?_
          exact ⟨⟨_, rfl⟩, .inr ⟨_, trivial, hx4⟩⟩
      · gi_wp2
        refine bodyPost_ret (results_none rfl _ _ _) rfl ?_
        exact ⟨⟨_, rfl⟩, .inr ⟨_, trivial, hx3⟩⟩
    · gi_wp2
      refine bodyPost_ret (results_none rfl _ _ _) rfl ?_
      exact ⟨⟨_, rfl⟩, .inr ⟨_, trivial, hx2⟩⟩
  · gi_wp2
    refine bodyPost_ret (results_none rfl _ _ _) rfl ?_
    exact ⟨⟨_, rfl⟩, .inr ⟨_, trivial, hx1⟩⟩

/-- the least and the greatest of four -/
def mn (x y : Int) : Int := if y < x then y else x
def mx (x y : Int) : Int := if x < y then y else x
theorem mn_fold (x y : Int) : (if y < x then y else x) = mn x y := rfl
theorem mx_fold (x y : Int) : (if x < y then y else x) = mx x y := rfl
def low4 (v : Bool → Bool → Int) : Int := mn (mn (mn (v false false) (v false true)) (v true false)) (v true true)
def high4 (v : Bool → Bool → Int) : Int := mx (mx (mx (v false false) (v false true)) (v true false)) (v true true)
theorem low4_fold (v : Bool → Bool → Int) : mn (mn (mn (v false false) (v false true)) (v true false)) (v true true) = low4 v := rfl
theorem high4_fold (v : Bool → Bool → Int) : mx (mx (mx (v false false) (v false true)) (v true false)) (v true true) = high4 v := rfl
/-- what the i-th result is when the rounds of pre are over -/
def nth4 (v : Bool → Bool → Int) (pre : List (Bool × Bool)) (i : Nat) : Int := match pre[i]? with | some p => v p.1 p.2 | none => 0
/-- between two rounds: the results so far, the place of the next one, the operation -/
def Filled (v : Bool → Bool → Int) (R A O S G : Nat) (pre : List (Bool × Bool)) (W : World) : Prop :=
  (∀ i, i < 4 → W.cell? ⟨R, i, none⟩ = some (.int .i64 (nth4 v pre i)) ∧ W.frozen? ⟨R, i, none⟩ = false) ∧ (W.cell? ⟨A, 0, none⟩ = some (.int .i64 pre.length) ∧ W.frozen? ⟨A, 0, none⟩ = false) ∧ W.cell? ⟨O, 0, none⟩ = some (.func (.func G) #[] #[]) ∧ (W.cell? ⟨S, 0, none⟩ = some (.int .i64 0) ∧ W.cell? ⟨S, 1, none⟩ = some (.int .i64 0)) ∧ W.frozen? ⟨S, 0, none⟩ = false ∧ W.frozen? ⟨S, 1, none⟩ = false
theorem Filled.own (v : Bool → Bool → Int) (R A O S G : Nat) : Own (Filled v R A O S G) := fun _ _ _ _ hs hg hr =>
  ⟨fun i hi => ⟨cell_kept (hs.1 i hi).1 hg hr, (frozen_kept (hs.1 i hi).1 hg hr).trans (hs.1 i hi).2⟩, ⟨cell_kept hs.2.1.1 hg hr, (frozen_kept hs.2.1.1 hg hr).trans hs.2.1.2⟩, cell_kept hs.2.2.1 hg hr, ⟨cell_kept hs.2.2.2.1.1 hg hr, cell_kept hs.2.2.2.1.2 hg hr⟩, (frozen_kept hs.2.2.2.1.1 hg hr).trans hs.2.2.2.2.1, (frozen_kept hs.2.2.2.1.2 hg hr).trans hs.2.2.2.2.2⟩
theorem Filled.start (v : Bool → Bool → Int) (R A O S G : Nat) (W : World)
    (h0 : W.cell? ⟨R, 0, none⟩ = some (.int .i64 0)) (h1 : W.cell? ⟨R, 1, none⟩ = some (.int .i64 0)) (h2 : W.cell? ⟨R, 2, none⟩ = some (.int .i64 0)) (h3 : W.cell? ⟨R, 3, none⟩ = some (.int .i64 0))
    (f0 : W.frozen? ⟨R, 0, none⟩ = false) (f1 : W.frozen? ⟨R, 1, none⟩ = false) (f2 : W.frozen? ⟨R, 2, none⟩ = false) (f3 : W.frozen? ⟨R, 3, none⟩ = false)
    (a0 : W.cell? ⟨A, 0, none⟩ = some (.int .i64 0)) (a1 : W.frozen? ⟨A, 0, none⟩ = false) (o0 : W.cell? ⟨O, 0, none⟩ = some (.func (.func G) #[] #[])) (s0 : W.cell? ⟨S, 0, none⟩ = some (.int .i64 0)) (s1 : W.cell? ⟨S, 1, none⟩ = some (.int .i64 0)) (t0 : W.frozen? ⟨S, 0, none⟩ = false) (t1 : W.frozen? ⟨S, 1, none⟩ = false) : Filled v R A O S G [] W := by
  refine ⟨fun i hi => ?_, ⟨a0, a1⟩, o0, ⟨s0, s1⟩, t0, t1⟩
  have hc : i = 0 ∨ i = 1 ∨ i = 2 ∨ i = 3 := by omega
  rcases hc with rfl | rfl | rfl | rfl
  · exact ⟨h0, f0⟩
  · exact ⟨h1, f1⟩
  · exact ⟨h2, f2⟩
  · exact ⟨h3, f3⟩

theorem nth4_old (v : Bool → Bool → Int) (pre : List (Bool × Bool)) (x : Bool × Bool) (i : Nat) (h : i ≠ pre.length) : nth4 v (pre ++ [x]) i = nth4 v pre i := by
  unfold nth4
  by_cases hi : i < pre.length
  · rw [List.getElem?_append_left hi]
  · rw [List.getElem?_eq_none (by simp; omega), List.getElem?_eq_none (by omega)]
theorem nth4_new (v : Bool → Bool → Int) (pre : List (Bool × Bool)) (x : Bool × Bool) : nth4 v (pre ++ [x]) pre.length = v x.1 x.2 := by
  unfold nth4
  rw [List.getElem?_append_right (Nat.le_refl _)]; simp
theorem Filled.next {v : Bool → Bool → Int} {R A O S G Bb n : Nat} {pre : List (Bool × Bool)} {w W : World} (p q : Bool) (h : Filled v R A O S G pre W) (hB : Below n w W) (h1 : R ≠ A) (h2 : R ≠ O) (h3 : A ≠ O) (h4 : R ≠ Bb) (h5 : A ≠ Bb) (h6 : n ≤ R) (h7 : n ≤ A) (h8 : R ≠ S) (h9 : A ≠ S) :
    KeepsOthers W ((W.setCell ⟨R, pre.length, none⟩ (.int .i64 (v p q))).setCell ⟨A, 0, none⟩ (.int .i64 (pre.length + 1))).drew ∧
    KeepC Bb W ((W.setCell ⟨R, pre.length, none⟩ (.int .i64 (v p q))).setCell ⟨A, 0, none⟩ (.int .i64 (pre.length + 1))).drew ∧
    Filled v R A O S G (pre ++ [(p, q)]) ((W.setCell ⟨R, pre.length, none⟩ (.int .i64 (v p q))).setCell ⟨A, 0, none⟩ (.int .i64 (pre.length + 1))).drew ∧
    Below n w ((W.setCell ⟨R, pre.length, none⟩ (.int .i64 (v p q))).setCell ⟨A, 0, none⟩ (.int .i64 (pre.length + 1))).drew := by
  have ne (a b o o' : Nat) (h : a ≠ b) : (⟨a, o, none⟩ : Addr) ≠ ⟨b, o', none⟩ := fun e => h (congrArg Addr.block e)
  refine ⟨((KeepsOthers.setCell _ _ _).trans (KeepsOthers.setCell _ _ _)).trans (KeepsOthers.drew _), fun o u hu => ?_, ⟨fun i hi => ⟨?_, ?_⟩, ⟨?_, ?_⟩, ?_, ⟨?_, ?_⟩, ?_, ?_⟩, ((hB.setCell h6 _).setCell h7 _).drew⟩
  · rw [World.cell?_drew, World.cell?_setCell_other _ _ _ _ (ne _ _ _ _ h5), World.cell?_setCell_other _ _ _ _ (ne _ _ _ _ h4)]; exact hu
  · rw [World.cell?_drew, World.cell?_setCell_other _ _ _ _ (ne _ _ _ _ (Ne.symm h1))]
    by_cases e : i = pre.length
    · subst e
      rw [nth4_new, World.cell?_setCell_same' _ _ _ (by rw [(h.1 _ hi).1]; rfl)]
    · rw [nth4_old _ _ _ _ e, World.cell?_setCell_other _ _ _ _ (fun k => e (congrArg Addr.off k).symm)]
      exact (h.1 i hi).1
  · rw [frozen_drew_own, World.frozen?_setCell, World.frozen?_setCell]; exact (h.1 i hi).2
  · rw [World.cell?_drew, World.cell?_setCell_same' _ _ _ (by rw [World.cell?_setCell_other _ _ _ _ (ne _ _ _ _ h1), h.2.1.1]; rfl)]
    simp
  · rw [frozen_drew_own, World.frozen?_setCell, World.frozen?_setCell]; exact h.2.1.2
  · rw [World.cell?_drew, World.cell?_setCell_other _ _ _ _ (ne _ _ _ _ h3), World.cell?_setCell_other _ _ _ _ (ne _ _ _ _ h2)]; exact h.2.2.1
  · rw [World.cell?_drew, World.cell?_setCell_other _ _ _ _ (ne _ _ _ _ h9), World.cell?_setCell_other _ _ _ _ (ne _ _ _ _ h8)]; exact h.2.2.2.1.1
  · rw [World.cell?_drew, World.cell?_setCell_other _ _ _ _ (ne _ _ _ _ h9), World.cell?_setCell_other _ _ _ _ (ne _ _ _ _ h8)]; exact h.2.2.2.1.2
  · rw [frozen_drew_own, World.frozen?_setCell, World.frozen?_setCell]; exact h.2.2.2.2.1
  · rw [frozen_drew_own, World.frozen?_setCell, World.frozen?_setCell]; exact h.2.2.2.2.2

theorem ends_stops (F : Fence) (n : Nat) (hf : F.fn 49) (hro : F.round = none) (hn : 1 ≤ n) (Ba Bb : Nat) (la ua lb ub : Int) (w : World) (hBa : Ba < w.heap.size) (hBb : Bb < w.heap.size)
    (ha0 : w.cell? ⟨Ba, 0, none⟩ = some (.int .i64 la)) (ha1 : w.cell? ⟨Ba, 1, none⟩ = some (.int .i64 ua)) (hb0 : w.cell? ⟨Bb, 0, none⟩ = some (.int .i64 lb)) (hb1 : w.cell? ⟨Bb, 1, none⟩ = some (.int .i64 ub)) :
    SeqStopsK F n Try.prog 49 #[.pointer (some ⟨Ba, 0, none⟩), .pointer (some ⟨Bb, 0, none⟩)] (encs2 la ua lb ub) (KeepC Bb) (fun ys => ys = [(false, false), (false, true), (true, false), (true, true)]) (fun _ => True) 4 w := fun l J Jx W hW _ _ hY h0 =>
  ends1_in F n hf hro hn l Ba Bb la ua lb ub J Jx hY W ((hW.cell (p := ⟨Ba, 0, none⟩) hBa).trans ha0) ((hW.cell (p := ⟨Ba, 1, none⟩) hBa).trans ha1) ((hW.cell (p := ⟨Bb, 0, none⟩) hBb).trans hb0) ((hW.cell (p := ⟨Bb, 1, none⟩) hBb).trans hb1) h0

set_option maxHeartbeats 1000000 in
theorem ends_in (F : Fence) (n : Nat) (hf : F.fn 47) (hro : F.round = none) (la ua lb ub : Int) (w : World) :
    CallsIn F n Try.prog 47 #[.agg #[.int .i64 la, .int .i64 ua], .agg #[.int .i64 lb, .int .i64 ub]] w fun e w' => e = .returned (.func (.func 49) #[] #[.pointer (some ⟨w.heap.size, 0, none⟩), .pointer (some ⟨w.heap.size + 1, 0, none⟩)]) ∧
      w' = (w.alloc (.cells #[.int .i64 la, .int .i64 ua] 23)).alloc (.cells #[.int .i64 lb, .int .i64 ub] 23) := by
  refine callsIn_of_wp Try.func47 rfl hf ?_ hro
  simp only [Try.ntmps47, List.size_toArray, List.length_cons, List.length_nil, Nat.reduceAdd, Nat.reduceSub, Array.replicate_succ, Array.replicate_zero, List.push_toArray, List.append_toArray, List.nil_append, List.cons_append]
  gi_wp2
  go_ret
  exact ⟨rfl, rfl⟩

end Go.Proofs.Ytnhieokegidibaa
