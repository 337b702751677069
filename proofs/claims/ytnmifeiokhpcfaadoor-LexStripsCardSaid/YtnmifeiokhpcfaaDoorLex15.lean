/-
  THE LIBRARY's strings.Builder AT THIS PROGRAM: what its writers do.
-/
import Derived.Test.YtnmifeiokhpcfaaDoorProg
import Derived.Lib.Builder
import Derived.Lib.AppendStr
import Derived.Lib.UnsafeStr
import Derived.Lib.Walk
import Derived.WalkKit
import Derived.Laws.Externs
import Derived.OwnWalk
import Derived.Test.YtnmifeiokhpcfaaDoorLexN
import Derived.Lib.Hide

namespace Go.Proofs.YtnmifeiokhpcfaaDoor
open Go.RowKit
set_option linter.unusedVariables false

theorem infoB : (Tryd.prog.info? 58).map (fun i => (i.zero, i.size, i.bytes)) = some (some (.agg #[.pointer none, .slice none 0 0]), 2, 32) := by kernel_rfl
theorem info8 : (Tryd.prog.info? 5).map (fun i => (i.zero, i.size, i.bytes)) = some (some (.int .u8 0), 1, 1) := by kernel_rfl

set_option maxRecDepth 100000 in
theorem copy_used (b : Nat) (w : World) (h0 : w.cell? ⟨b, 0, none⟩ = some (.pointer (some ⟨b, 0, none⟩))) :
    Calls Tryd.prog 37 #[.pointer (some ⟨b, 0, none⟩)] w fun e w' => e = .returned (.tuple #[]) ∧ w' = w := by
  obtain ⟨j, hj, _⟩ := info_parts infoB
  have hne := Lib.run_neq_ptr_same (w := w) ⟨b, 0, none⟩ Tryd.underlying55 hj
  go_enter Tryd.func37, Tryd.ntmps37
  go_wp2_with fail
  go_end0
  exact ⟨rfl, rfl⟩

set_option maxRecDepth 100000 in
theorem copy_fresh (b : Nat) (w : World) (h0 : w.cell? ⟨b, 0, none⟩ = some (.pointer none)) (hsh : w.shape? b = some (58, 2)) (hfz : w.frozen? ⟨b, 0, none⟩ = false) :
    Calls Tryd.prog 37 #[.pointer (some ⟨b, 0, none⟩)] w fun e w' => e = .returned (.tuple #[]) ∧ w' = w.setCell ⟨b, 0, none⟩ (.pointer (some ⟨b, 0, none⟩)) := by
  obtain ⟨j, hj, _, hjs, _⟩ := info_parts infoB
  have h1 := Lib.run_to_unsafe (w := w) ⟨b, 0, none⟩ Tryd.underlying55 Tryd.underlying82 hj (by rw [hjs]; decide) hsh (Nat.zero_lt_succ 1)
  have h2 : (callFunc 48 #[.pointer (some ⟨b, 0, none⟩)]).run Tryd.prog w = .ok (.value (.pointer (some ⟨b, 0, none⟩))) w := by
    rw [run_callFunc_extern Tryd.func48 (by kernel_rfl) (by kernel_rfl) (by kernel_rfl) (e := Extern.AbiNoEscape.same) (by kernel_rfl)]
    rw [Lib.run_noEscape]
    rfl
  have h3 := Lib.run_from_unsafe (w := w) ⟨b, 0, none⟩ Tryd.underlying82 Tryd.underlying55 hj hsh (by kernel_rfl)
  go_enter Tryd.func37, Tryd.ntmps37
  go_wp2_with fail
  go_end0
  exact ⟨rfl, rfl⟩

/-- what a writer of the builder in block b leaves as it was: whatever is neither that block nor a row of bytes -/
structure BK (B b : Nat) (w w' : World) : Prop where
  below : Below B w w'
  same : ∀ (k : Nat) (o : Obj), k ≠ b → (∀ cur fr, o ≠ Obj.cells cur 5 fr) → w.heap[k]? = some o → w'.heap[k]? = some o
theorem BK.refl (B b : Nat) (w : World) : BK B b w w := ⟨Below.refl _ _, fun _ _ _ _ h => h⟩
theorem BK.trans {B b : Nat} {x y z : World} (h : BK B b x y) (k : BK B b y z) : BK B b x z := ⟨h.below.trans k.below, fun i o h1 h2 h3 => k.same i o h1 h2 (h.same i o h1 h2 h3)⟩
theorem BK.setCell {B b : Nat} (hB : B ≤ b) (j : Nat) (w : World) (u : Value) : BK B b w (w.setCell ⟨b, j, none⟩ u) := ⟨(Below.refl _ _).setCell (p := ⟨b, j, none⟩) hB _, fun k o h1 _ h3 => by rw [Below.heap_setCell _ _ _ _ h1]; exact h3⟩
theorem BK.alloc {B : Nat} (b : Nat) (w : World) (hB : B ≤ w.heap.size) (o : Obj) : BK B b w (w.alloc o) := ⟨(Below.refl _ _).alloc hB _, fun k o' _ _ h3 => by rw [Below.heap_alloc _ _ _ (cells_lt h3)]; exact h3⟩
theorem BK.grown {B b : Nat} {w w' : World} {row : Option Nat} (hB : B ≤ w.heap.size) (hg : w.grownBy w' row) (hr : ∀ g, row = some g → B ≤ g ∧ ∃ cur fr, w.heap[g]? = some (Obj.cells cur 5 fr)) : BK B b w w' :=
  ⟨(Below.refl _ _).grown hg hB (fun k e => (hr k e).1), fun k o _ h2 h3 => by
    rw [hg.block k (cells_lt h3) (fun e => by
      obtain ⟨_, cur, fr, hc⟩ := hr k e.symm
      rw [h3] at hc
      exact h2 cur fr (Option.some.inj hc))]
    exact h3⟩
theorem own_u8 {w : World} {B : Nat} {v : Value} {n : Nat} {xs : List Value} (h : w.ownsRow B 5 1 v n xs) : ∀ g, v.ownBlock = some g → B ≤ g ∧ ∃ cur fr, w.heap[g]? = some (Obj.cells cur 5 fr) := by
  intro g hg
  refine ⟨(h.lt g hg).1, ?_⟩
  rcases h.2 with ⟨rfl, _⟩ | ⟨g', cap, cur, rfl, _, hh, _⟩
  · simp [Value.ownBlock] at hg
  · simp [Value.ownBlock] at hg
    subst hg
    exact ⟨cur, _, hh⟩

theorem copy_any {B b : Nat} {bs : List Value} {w : World} (h : Lib.IsBuilder 58 5 B b bs w) :
    Calls Tryd.prog 37 #[.pointer (some ⟨b, 0, none⟩)] w fun e w' => e = .returned (.tuple #[]) ∧ Lib.BuilderAt 58 5 B b (.pointer (some ⟨b, 0, none⟩)) bs w' ∧ BK B b w w' := by
  rcases h with h | h
  · exact (copy_fresh b w h.cell0 h.shape h.frozen0).mono fun e w' hw => ⟨hw.1, by rw [hw.2]; exact h.used _, by rw [hw.2]; exact BK.setCell h.1 0 w _⟩
  · exact (copy_used b w h.cell0).mono fun e w' hw => ⟨hw.1, by rw [hw.2]; exact h, by rw [hw.2]; exact BK.refl B b w⟩

set_option maxHeartbeats 2000000 in
set_option maxRecDepth 100000 in
theorem writeString_any {B b : Nat} {l : List UInt8} {w : World} (s : ByteArray) (h : Lib.IsBuilder 58 5 B b (Lib.byteCells l) w) (hlen : l.length + s.size ≤ 140737488355328) (hB : B ≤ w.heap.size) :
    Calls Tryd.prog 18 #[.pointer (some ⟨b, 0, none⟩), .string s] w fun e w' => e = .returned (.tuple #[.int .i64 s.size, .nilIface]) ∧ Lib.IsBuilder 58 5 B b (Lib.byteCells (l ++ s.data.toList)) w' ∧ BK B b w w' := by
  obtain ⟨i0, hi, hz0, hz1, hz2⟩ := info_parts info8
  go_enter Tryd.func18, Tryd.ntmps18
  go_wp2_with fail
  refine (copy_any h).mono ?_
  rintro e w1 ⟨rfl, h1, k1⟩
  obtain ⟨hBb, v, hbk, hown, hne⟩ := h1
  have c1 : w1.cell? ⟨b, 1, none⟩ = some v := by rw [Lib.cell_of_heap hbk]; rfl
  have K1 := Lib.hid k1
  have hsz := k1.below.size
  rw [Lib.byteCells_length] at hown
  clear h k1
  go_wp2_with (at_builtin; refine Lib.wpList_append_own_string _ rfl _ _ 56 9 rfl B 5 i0 Tryd.underlying56 Tryd.underlying9 hi hz0 hz1 hz2 _ _ _ rfl hown s rfl ?c3 ?c4 ?c5 ?_)
  case c3 => unfold maxLen; omega
  case c4 => omega
  case c5 => omega
  intro v' w2 hown' hgrow _
  have hlt : b < w1.heap.size := cells_lt hbk
  have hb2 : w2.heap[b]? = some (.cells #[.pointer (some ⟨b, 0, none⟩), v] 58 (0, 0)) := (hgrow.block b hlt (fun e => hne e.symm)).trans hbk
  have d1 : w2.cell? ⟨b, 1, none⟩ = some v := by rw [Lib.cell_of_heap hb2]; rfl
  have f1 : w2.frozen? ⟨b, 1, none⟩ = false := Lib.frozen_of_heap hb2 1
  have K2 := Lib.hid (K1.out.trans (BK.grown (b := b) (by omega) hgrow (own_u8 hown)))
  have FIN := Lib.hid (show ∀ u, v' = u → Lib.IsBuilder 58 5 B b (Lib.byteCells (l ++ s.data.toList)) (w2.setCell ⟨b, 1, none⟩ u) from fun u hu => by
    subst hu
    exact .inr (Lib.BuilderAt.put hBb hb2 (bs' := Lib.byteCells (l ++ s.data.toList)) (by
      have e : Lib.byteCells l ++ Lib.strCells s = Lib.byteCells (l ++ s.data.toList) := by simp [Lib.byteCells, Lib.strCells]
      rw [e] at hown'
      rw [Lib.byteCells_length, List.length_append]
      simpa using hown') (by decide)))
  obtain ⟨ao, n', cap, rfl⟩ : ∃ ao n' cap, v' = .slice ao n' cap := by
    rcases hown'.2 with ⟨hv, _⟩ | ⟨g, cap, cur, hv, _⟩
    · exact ⟨_, _, _, hv⟩
    · exact ⟨_, _, _, hv⟩
  clear hown hown' hgrow hbk hb2 c1
  go_wp2_with fail
  go_ret2
  exact ⟨rfl, FIN.out _ rfl, K2.out.trans (BK.setCell hBb 1 _ _)⟩

set_option maxHeartbeats 2000000 in
set_option maxRecDepth 100000 in
theorem writeByte_any {B b : Nat} {l : List UInt8} {w : World} (c : UInt8) (h : Lib.IsBuilder 58 5 B b (Lib.byteCells l) w) (hlen : l.length + 1 ≤ 140737488355328) (hB : B ≤ w.heap.size) :
    Calls Tryd.prog 19 #[.pointer (some ⟨b, 0, none⟩), .int .u8 c.toNat] w fun e w' => e = .returned .nilIface ∧ Lib.IsBuilder 58 5 B b (Lib.byteCells (l ++ [c])) w' ∧ BK B b w w' := by
  obtain ⟨i0, hi, hz0, hz1, hz2⟩ := info_parts info8
  go_enter Tryd.func19, Tryd.ntmps19
  go_wp2_with fail
  refine (copy_any h).mono ?_
  rintro e w1 ⟨rfl, h1, k1⟩
  obtain ⟨hBb, v, hbk, hown, hne⟩ := h1
  have c1 : w1.cell? ⟨b, 1, none⟩ = some v := by rw [Lib.cell_of_heap hbk]; rfl
  have K1 := Lib.hid k1
  have hsz := k1.below.size
  rw [Lib.byteCells_length] at hown
  clear h k1
  go_wp2_with (at_builtin; refine wpList_append_own _ rfl _ _ 56 rfl B 5 i0 (.int .u8 0) 1 1 Tryd.underlying56 hi hz0 hz1 hz2 rfl (by decide) _ _ _ rfl (hown.alloc _) ⟨w1.heap.size, 0, none⟩ 1 1 [.int .u8 c.toNat] rfl rfl ?c1 ?c2 ?c3 ?c4 ?c5 ?_)
  case c1 =>
    intro j u hj
    match j, hj with
    | 0, hj => simp at hj; subst hj; simp [Addr.add]
  case c2 => intro u hu; simp at hu; subst hu; rfl
  case c3 => unfold maxLen; omega
  case c4 => omega
  case c5 => simp; omega
  intro v' w2 hown' hgrow _
  have hlt : b < w1.heap.size := cells_lt hbk
  have hb2 : w2.heap[b]? = some (.cells #[.pointer (some ⟨b, 0, none⟩), v] 58 (0, 0)) := ((hgrow.block b (by simp; omega) (fun e => hne e.symm)).trans (Below.heap_alloc _ _ _ hlt)).trans hbk
  have d1 : w2.cell? ⟨b, 1, none⟩ = some v := by rw [Lib.cell_of_heap hb2]; rfl
  have f1 : w2.frozen? ⟨b, 1, none⟩ = false := Lib.frozen_of_heap hb2 1
  have K2 := Lib.hid ((K1.out.trans (BK.alloc b w1 (by omega) _)).trans (BK.grown (b := b) (by simp; omega) hgrow (own_u8 (hown.alloc _))))
  have FIN := Lib.hid (show ∀ u, v' = u → Lib.IsBuilder 58 5 B b (Lib.byteCells (l ++ [c])) (w2.setCell ⟨b, 1, none⟩ u) from fun u hu => by
    subst hu
    exact .inr (Lib.BuilderAt.put hBb hb2 (bs' := Lib.byteCells (l ++ [c])) (by
      have e : Lib.byteCells l ++ [Value.int .u8 c.toNat] = Lib.byteCells (l ++ [c]) := by simp [Lib.byteCells]
      rw [e] at hown'
      rw [Lib.byteCells_length, List.length_append]
      simpa using hown') (by decide)))
  obtain ⟨ao, n', cap, rfl⟩ : ∃ ao n' cap, v' = .slice ao n' cap := by
    rcases hown'.2 with ⟨hv, _⟩ | ⟨g, cap, cur, hv, _⟩
    · exact ⟨_, _, _, hv⟩
    · exact ⟨_, _, _, hv⟩
  clear hown hown' hgrow hbk hb2 c1
  go_wp2_with fail
  go_ret
  exact ⟨rfl, FIN.out _ rfl, K2.out.trans (BK.setCell hBb 1 _ _)⟩

end Go.Proofs.YtnmifeiokhpcfaaDoor
