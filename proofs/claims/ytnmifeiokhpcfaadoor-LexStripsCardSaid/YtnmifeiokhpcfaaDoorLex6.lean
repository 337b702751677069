/-
  PACKAGE lex: add keeps a token.
-/
import Derived.Test.YtnmifeiokhpcfaaDoorLex5
import Derived.BigQuiet
import Derived.Deep.QuietTactic
import Derived.Deep.RegionHeld3
import Derived.Deep.RegionLaw
import Derived.Deep.AppendLies
import Derived.OwnWalk
import Derived.WalkLawsBesides

namespace Go.Proofs.YtnmifeiokhpcfaaDoor
open Go.RowKit
set_option linter.unusedVariables false

theorem info47 : (Tryd.prog.info? 37).map (fun i => (i.zero, i.size, i.bytes)) = some (some (.agg #[.int .i64 0, .string ⟨#[]⟩, .int .i64 0, .int .i64 0, .int .i64 0, .int .i64 0, .int .i64 0]), 7, 64) := by kernel_rfl

theorem frozen_alloc_of {w : World} {o : Obj} {a : Addr} (hf : w.frozen? a = false) (h : a.block < w.heap.size) : (w.alloc o).frozen? a = false := by
  rw [World.frozen?_alloc_old w o a (Nat.ne_of_lt h)]; exact hf
theorem new2 (w : World) (o o' : Obj) : ((w.alloc o).alloc o').heap[w.heap.size + 1]? = some o' := by
  have := heap_alloc_new (w.alloc o) o'
  rwa [World.size_alloc] at this
/-- a token with its place -/
def Tk.put (t : Tk) (st a : Nat) : Tk := { t with ofs := st, en := a }

theorem add_end {w WX w1 : World} {B : Nat} {s : ByteArray} {a st : Nat} {l : List Tk} {v : Value} {gg cap : Nat} (t : Tk) (hp : Pos w B 49 s a [.int .i64 st, v]) (ho : w.ownsRow (B + 1) 37 7 v l.length (cellsOf l))
    (hb : Below w.heap.size w WX) (hgrow : WX.grownBy w1 v.ownBlock) (hown1 : w1.ownsRow (B + 1) 37 7 (.slice (some ⟨gg, 0, none⟩) (l.length + 1) cap) (l.length + 1) (cellsOf l ++ (t.put st a).cells)) :
    Below B w (w1.setCell ⟨B, 3, none⟩ (.slice (some ⟨gg, 0, none⟩) (l.length + 1) cap)) ∧ Sc (w1.setCell ⟨B, 3, none⟩ (.slice (some ⟨gg, 0, none⟩) (l.length + 1) cap)) B s a st (l ++ [t.put st a]) := by
  have hB := hp.lt
  have hsz := hb.size
  refine ⟨((hb.mono (Nat.le_of_lt hB)).grown hgrow (by omega) (fun k e => by have := (ho.lt k e).1; omega)).setCell (p := ⟨B, 3, none⟩) (Nat.le_refl _) _, .slice (some ⟨gg, 0, none⟩) (l.length + 1) cap, ?_, ?_⟩
  · have hg0 : w.grownBy WX none := ⟨hb.os, hb.tape, hb.output, hb.size, fun k hk _ => hb.block k hk⟩
    have p1 : Pos w1 B 49 s a [.int .i64 st, v] := (hp.kept hg0 (by simp)).kept hgrow (fun e => by have := (ho.lt B e.symm).1; omega)
    exact cells_set p1 _
  · rw [cellsOf_snoc, List.length_append]
    refine ownsRow_setCell_other hown1 ?_ _
    intro e
    have := (hown1.lt _ e).1
    simp at this
    omega

set_option maxRecDepth 100000 in
set_option maxHeartbeats 3200000 in
theorem add_any {w : World} {B : Nat} {s : ByteArray} {a st : Nat} {l : List Tk} (t : Tk) (h : Sc w B s a st l) (hl : l.length < 131072) :
    Calls Tryd.prog 52 #[.pointer (some ⟨B, 0, none⟩), t.val] w fun r w' => r = .returned (.tuple #[]) ∧ Below B w w' ∧ Sc w' B s a st (l ++ [t.put st a]) := by
  obtain ⟨i0, hi0, hz0, hz1, hz2⟩ := info_parts info47
  obtain ⟨v, hp, ho⟩ := h
  have h1 := hp.c1
  have h2 : w.cell? ⟨B, 2, none⟩ = some (.int .i64 st) := cells_get hp
  have h3 : w.cell? ⟨B, 3, none⟩ = some v := cells_get hp
  have h4 : w.frozen? ⟨B, 3, none⟩ = false := cells_free hp
  have hB := hp.lt
  have hne : v.ownBlock ≠ some B := fun e => by have := (ho.lt B e).1; omega
  have HP := Lib.hid hp
  have hv1 : v.cells = #[v] := by
    rcases ho.2 with ⟨rfl, _⟩ | ⟨g, cap, cur, rfl, _⟩ <;> rfl
  have HO := Lib.hid ho
  have hne2 : v.ownBlock ≠ some w.heap.size := fun e => by have := (ho.lt _ e).2; omega
  have HOB := Lib.hid (show ∀ wx, Below w.heap.size w wx → wx.ownsRow (B + 1) 37 7 v l.length (cellsOf l) from fun wx hb => ho.kept (⟨hb.os, hb.tape, hb.output, hb.size, fun k hk _ => hb.block k hk⟩ : w.grownBy wx none) (by cases v.ownBlock <;> simp))
  clear hp ho
  go_enter Tryd.func52, Tryd.ntmps52
  go_wp2_with fail
  go_region
  all_goals go_wp2_with fail
  go_region_law
    ((refine step_append_lies _ (by rfl) _ _ _ (by rfl) (B + 1) 37 i0 _ 7 64 Tryd.underlying23 hi0 hz0 hz1 hz2 rfl (by omega) v l.length (cellsOf l) (by rfl) (HOB.out _ (by repeat (first | exact Below.refl _ _ | refine Below.drew ?_ | refine Below.alloc ?_ (by simp) _)))
        ⟨w.heap.size + 1, 0, none⟩ 1 1 ([.int .i64 t.kind, .string t.text, .int .i64 t.n, .int .i64 t.man, .int .i64 t.ex, .int .i64 st, .int .i64 a] : List Value) (by rfl) (by rfl) (World.news_of_block (cs := ([.int .i64 t.kind, .string t.text, .int .i64 t.n, .int .i64 t.man, .int .i64 t.ex, .int .i64 st, .int .i64 a] : List Value).toArray) (t := 37) (fr := (0, 0)) (by first | exact heap_alloc_new _ _ | rfl | exact new2 _ _ _)) (by simp [Value.oneCell'])
        (by omega) (by unfold maxLen; omega) (by omega) (by simp; omega) (w.heap.size + 2) (by simp) ?_; intro gg cap w1 hown1 hgrow hat hlt; have hcB : w1.cell? ⟨B, 3, none⟩ = some v := (by rw [hgrow.cell_far _ (by simp; omega) (Ne.symm hne)]; go_simp); have hfB : w1.frozen? ⟨B, 3, none⟩ = false := (by rw [hgrow.frozen_far _ (by simp; omega) (Ne.symm hne)]; exact frozen_alloc_of (frozen_alloc_of (w := w) h4 hB) (by simp; omega))))
  all_goals go_wp2_with fail
  all_goals go_end0
  all_goals
    have HF := add_end t HP.out HO.out (by repeat (first | exact Below.refl _ _ | refine Below.drew ?_ | refine Below.alloc ?_ (by simp; try omega) _)) hgrow hown1
    exact ⟨rfl, HF.1, HF.2⟩

end Go.Proofs.YtnmifeiokhpcfaaDoor
