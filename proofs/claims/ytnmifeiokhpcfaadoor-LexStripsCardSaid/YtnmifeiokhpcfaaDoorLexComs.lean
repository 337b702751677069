/-
  PACKAGE lex: Comments.
-/
import Derived.Test.YtnmifeiokhpcfaaDoorLexGap
import Derived.Test.YtnmifeiokhpcfaaDoorTok7
import Derived.RangeFuncBox
import Derived.OwnWalkIn

namespace Go.Proofs.YtnmifeiokhpcfaaDoor
open Go.RowKit Go.Shelf
set_option linter.unusedVariables false
attribute [local go_sem] Oper.semAt_some

theorem infoP : (Tryd.prog.info? 33).map (fun i => (i.zero, i.size, i.bytes)) = some (some (.agg #[.int .i64 0, .int .i64 0]), 2, 16) := by kernel_rfl

def pcC (x : Nat × Nat) : List Value := [.int .i64 x.1, .int .i64 x.2]
def cellsP (l : List (Nat × Nat)) : List Value := l.flatMap pcC
theorem cellsP_length (l : List (Nat × Nat)) : (cellsP l).length = l.length * 2 := by
  induction l with
  | nil => rfl
  | cons t l ih => simp only [cellsP, List.flatMap_cons, List.length_append, List.length_cons] at ih ⊢; rw [ih]; simp [pcC]; omega
theorem cellsP_snoc (l : List (Nat × Nat)) (x : Nat × Nat) : cellsP (l ++ [x]) = cellsP l ++ pcC x := by simp [cellsP]

/-- a row of pieces that the call owns, and the cell that holds it -/
theorem own_pc {w : World} {B : Nat} {v : Value} {n : Nat} {xs : List Value} (h : w.ownsRow B 33 2 v n xs) : ∀ g, v.ownBlock = some g → B ≤ g ∧ ∃ cur fr, w.heap[g]? = some (Obj.cells cur 33 fr) := by
  intro g hg
  refine ⟨(h.lt g hg).1, ?_⟩
  rcases h.2 with ⟨rfl, _⟩ | ⟨g', cap, cur, rfl, _, hh, _⟩
  · simp [Value.ownBlock] at hg
  · simp [Value.ownBlock] at hg
    subst hg
    exact ⟨cur, _, hh⟩
/-- between two rounds -/
structure ComI (w : World) (N : Nat) (p : List (Nat × Nat)) (W : World) : Prop where
  row : ∃ v, Boxed W N 27 v ∧ W.ownsRow w.heap.size 33 2 v p.length (cellsP p)
  bel : Below w.heap.size w W
  siz : N + 1 + 1 + 1 ≤ W.heap.size
theorem ComI.turns {w : World} {N M' : Nat} {p : List (Nat × Nat)} {A B : World} (h : ComI w N p A) (hw : w.heap.size ≤ N) (hM : w.heap.size ≤ M') (ht : TurnsAll 47 M' A B) : ComI w N p B := by
  obtain ⟨v, h1, h2⟩ := h.row
  have hb := below_turns h.bel (by have := h.siz; omega) hM ht
  have hc := cells_turns (by decide) h1 ht
  obtain ⟨row, hg, hr⟩ := ht
  refine ⟨⟨v, hc, h2.kept hg ?_⟩, hb, Nat.le_trans h.siz hg.size⟩
  cases hv : v.ownBlock with
  | none => exact .inl rfl
  | some g =>
    refine .inr (fun e => ?_)
    obtain ⟨_, cur, fr, hc⟩ := own_pc h2 g hv
    obtain ⟨_, o, ho, h1⟩ := hr g e.symm
    rw [hc] at ho
    cases ho
    rcases h1 with h1 | ⟨_, _, h1⟩
    · cases h1
    · cases h1

/-- what is neither a piece nor a list of pieces stays while one is appended -/
theorem piece_append {W w1 : World} {n B : Nat} {v v' : Value} {k : Nat} {ys : List Value} {tmp : Obj} (hv : Boxed W B 27 v) (hrow : W.ownsRow n 33 2 v k ys) (hgrow : (W.alloc tmp).grownBy w1 v.ownBlock)
    {i : Nat} {cur : Array Value} {T : TypeId} {fr : Nat × Nat} (h1 : T ≠ 33) (h2 : T ≠ 27) (ho : W.heap[i]? = some (.cells cur T fr)) : (w1.setCell ⟨B, 0, none⟩ v').heap[i]? = some (.cells cur T fr) := by
  have hB : i ≠ B := fun e => by
    rw [e, show W.heap[B]? = _ from hv] at ho
    cases ho
    exact h2 rfl
  have hg : some i ≠ v.ownBlock := fun e => by
    obtain ⟨_, c2, f2, hc⟩ := own_pc hrow i e.symm
    rw [hc] at ho
    cases ho
    exact h1 rfl
  rw [Below.heap_setCell _ _ _ i hB]
  exact (hgrow.block i (by have := cells_lt ho; simp; omega) hg).trans ((Below.heap_alloc _ _ _ (cells_lt ho)).trans ho)
theorem keepT_append {W w1 : World} {n B : Nat} {v v' : Value} {k : Nat} {ys : List Value} {tmp : Obj} (hv : Boxed W B 27 v) (hrow : W.ownsRow n 33 2 v k ys) (hgrow : (W.alloc tmp).grownBy w1 v.ownBlock)
    (hz : W.heap.size ≤ (w1.setCell ⟨B, 0, none⟩ v').heap.size) : KeepT W (w1.setCell ⟨B, 0, none⟩ v') :=
  ⟨⟨hz, fun i cur T fr hT ho => piece_append hv hrow hgrow (by rcases hT with rfl | rfl | rfl <;> decide) (by rcases hT with rfl | rfl | rfl <;> decide) ho⟩, fun i cur fr ho => piece_append hv hrow hgrow (by decide) (by decide) ho⟩

set_option maxRecDepth 100000 in
set_option maxHeartbeats 4000000 in
theorem coms_walk {w : World} {s : ByteArray} (l : List Tk) (xs : List (Nat × Nat)) (hs : s.size ≤ 1048576) (hl : l.length ≤ 131072) (hxl : xs.length ≤ 10000000)
    (HLEX : ∀ w', Below w.heap.size w w' → Calls Tryd.prog 6 #[.string s] w' (LexP w' (.ok l))) (hok : okL s l) (hcm : comsL s l = some xs) :
    Calls Tryd.prog 7 #[.string s] w fun e w' => ∃ v, e = .returned (.tuple #[v, .int .i64 0, .int .i64 0]) ∧ w'.ownsRow w.heap.size 33 2 v xs.length (cellsP xs) ∧ Below w.heap.size w w' := by
  have HL := Lib.hid HLEX
  have HOK := Lib.hid hok
  have HCM := Lib.hid hcm
  clear HLEX hok hcm
  obtain ⟨i0, hi0, hz0, hz1, hz2⟩ := info_parts infoP
  refine (callsIn_wide (n := 5)).1 ?_
  refine callsIn_of_wp_marks Tryd.func7 rfl trivial ?_ rfl
  simp only [Tryd.ntmps7, List.size_toArray, List.length_cons, List.length_nil, Nat.reduceAdd, Nat.reduceSub, Array.replicate_succ, Array.replicate_zero, List.push_toArray, List.append_toArray, List.nil_append, List.cons_append]
  gi_wp2
  have b1 : Below w.heap.size w w := Below.refl _ _
  refine ⟨trivial, callsIn_wide.2 ((HL.out _ b1).mono ?_)⟩
  rintro e w5 ⟨hb5, v, rfl, ho⟩
  have B5 := Lib.hid hb5
  have TK := Lib.hid (TokAt.of ho)
  have z5 : w.heap.size ≤ w5.heap.size := hb5.size
  have hv : ∃ ao n c, v = .slice ao n c := by
    rcases TK.out with ⟨h, _⟩ | ⟨g, c, cur, h, _⟩
    · exact ⟨_, _, _, h⟩
    · exact ⟨_, _, _, h⟩
  obtain ⟨ao, nn, cc, rfl⟩ := hv
  clear hb5 ho b1
  gi_wp2
  refine ⟨trivial, callsIn_wide.2 ((comments_any s ao nn cc _).mono ?_)⟩
  rintro e w6 ⟨rfl, rfl⟩
  gi_wp2
  have z4 : (((w5.alloc (.cells #[.slice none 0 0] 27)).alloc (.cells #[.string s] 9)).alloc (.cells #[.slice ao nn cc] 23)).heap.size = w5.heap.size + 1 + 1 + 1 := by simp
  have k4 : Below w5.heap.size w5 (((w5.alloc (.cells #[.slice none 0 0] 27)).alloc (.cells #[.string s] 9)).alloc (.cells #[.slice ao nn cc] 23)) := by
    repeat (first | exact Below.refl _ _ | refine Below.alloc ?_ (by simp <;> omega) _)
  have rt : (((w5.alloc (.cells #[.slice none 0 0] 27)).alloc (.cells #[.string s] 9)).alloc (.cells #[.slice ao nn cc] 23)).heap[w5.heap.size + 1 + 1]? = some (.cells #[.slice ao nn cc] 23 (0, 0)) := by
    have := heap_alloc_new ((w5.alloc (.cells #[.slice none 0 0] 27)).alloc (.cells #[.string s] 9)) (.cells #[.slice ao nn cc] 23)
    simpa only [World.size_alloc] using this
  have rs : (((w5.alloc (.cells #[.slice none 0 0] 27)).alloc (.cells #[.string s] 9)).alloc (.cells #[.slice ao nn cc] 23)).heap[w5.heap.size + 1]? = some (.cells #[.string s] 9 (0, 0)) := by
    have := heap_alloc_new (w5.alloc (.cells #[.slice none 0 0] 27)) (.cells #[.string s] 9)
    rw [World.size_alloc] at this
    exact (Below.heap_alloc _ _ _ (by simp)).trans this
  have rb : (((w5.alloc (.cells #[.slice none 0 0] 27)).alloc (.cells #[.string s] 9)).alloc (.cells #[.slice ao nn cc] 23)).heap[w5.heap.size]? = some (.cells #[.slice none 0 0] 27 (0, 0)) :=
    (Below.heap_alloc _ _ _ (by simp <;> omega)).trans ((Below.heap_alloc _ _ _ (by simp <;> omega)).trans (heap_alloc_new w5 _))
  have h0 : ComI w w5.heap.size [] (((w5.alloc (.cells #[.slice none 0 0] 27)).alloc (.cells #[.string s] 9)).alloc (.cells #[.slice ao nn cc] 23)) :=
    ⟨⟨_, rb, World.ownsRow_nil _ _ _ _⟩, B5.out.trans (k4.mono z5), by rw [z4]; exact Nat.le_refl _⟩
  have TK4 := Lib.hid (TK.out.kept (Kq.of_below k4))
  clear rb k4
  generalize (((w5.alloc (.cells #[.slice none 0 0] 27)).alloc (.cells #[.string s] 9)).alloc (.cells #[.slice ao nn cc] 23)) = W4 at *
  obtain ⟨N, hN⟩ : ∃ N, w5.heap.size = N := ⟨_, rfl⟩
  rw [hN] at rt rs h0 z4 z5 ⊢
  have HC := Lib.hid (comments1_C 4 (by omega) W4 (N + 1 + 1) (N + 1) s (.slice ao nn cc) l xs (by omega) hl rt rs TK4.out HOK.out HCM.out)
  refine wpIn_rangeFunc_C 47 rfl (by omega) (gf := 28) (lb := #[.pointer (some ⟨N + 1 + 1, 0, none⟩), .pointer (some ⟨N + 1, 0, none⟩)]) rfl trivial (enters_of Tryd.func28 (by kernel_rfl) rfl)
    HC.out KeepT.t (fun W l o o' _ h hc => ⟨⟨by simp, fun k cur T fr _ ho => by
        rw [World.putObj_heap_other (fun e => by rw [e] at ho; rw [h] at ho; cases ho; cases hc)]; exact ho⟩, fun k cur fr ho => by
        rw [World.putObj_heap_other (fun e => by rw [e] at ho; rw [h] at ho; cases ho; cases hc)]; exact ho⟩) (Below.refl _ _) (fun _ => rfl)
    (fun pre W => ComI w N pre W) (fun pre A B h ht => h.turns z5 (by omega) ht) h0
    (fun x c W => ∃ Bx, W.heap[Bx]? = some (.cells #[.int .i64 x.1, .int .i64 x.2] 33 (0, 0)) ∧ N + 1 + 1 + 1 ≤ Bx ∧ c = { tmps := #[.string s, undef, .slice none 0 0, .int .i64 0, .int .i64 0, .slice ao nn cc, .int .i64 0, .int .i64 0, .pointer (some ⟨N, 0, none⟩), .pointer (some ⟨Bx, 0, none⟩), .tuple #[.slice ao nn cc, .int .i64 0, .int .i64 0], .string s, .tuple #[.slice ao nn cc, .int .i64 0, .int .i64 0], .slice ao nn cc, .int .i64 0, .int .i64 0, .int .i64 0, .bool false, undef, undef, .string s, .slice ao nn cc, .func (.func 28) #[] #[.pointer (some ⟨N + 1 + 1, 0, none⟩), .pointer (some ⟨N + 1, 0, none⟩)], .agg #[.int .i64 x.1, .int .i64 x.2], undef, undef, undef, undef, undef], defers := [] })
    (fun x c A B ⟨Bx, h1, h2, h3⟩ ht => ⟨Bx, cells_turns (by decide) h1 ht, h2, h3⟩) ?assign ?body ?done
  case assign =>
    intro lr pre x post W hx hi
    have HI := Lib.hid hi
    clear hi
    dsimp only
    gi_wp2
    exact ⟨(KeepsOthers.alloc _ _).from _, ⟨(Kq.refl _).alloc _, fun k cur fr ho => (Below.heap_alloc _ _ _ (cells_lt ho)).trans ho⟩, HI.out.turns z5 (by omega : w.heap.size ≤ W4.heap.size) ⟨none, World.grownBy_alloc _ _ none, fun r e => by cases e⟩, W.heap.size, heap_alloc_new _ _, HI.out.siz, rfl⟩
  case body =>
    rintro lr pre x post c W hx hi ⟨Bx, hbx, hBx, rfl⟩
    have hpl : pre.length + 1 ≤ 10000000 := by rw [hx] at hxl; simp at hxl; omega
    obtain ⟨v, hv, hrow⟩ := hi.row
    have HI := Lib.hid hi
    have t1 := hv.cell
    have t2 : W.cell? ⟨Bx, 0, none⟩ = some (.int .i64 x.1) := by simp [World.cell?, hbx]
    have t3 : W.cell? ⟨Bx, 1, none⟩ = some (.int .i64 x.2) := by simp [World.cell?, hbx]
    have hNW : N + 1 + 1 + 1 ≤ W.heap.size := hi.siz
    clear hbx
    gi_wp2_with (gi_at_builtin; refine wpListIn_append_own _ rfl _ _ 27 rfl w.heap.size 33 i0 _ 2 16 Tryd.underlying27 hi0 hz0 hz1 hz2 rfl (by decide) _ _ _ rfl (hrow.alloc _) ⟨W.heap.size, 0, none⟩ 1 1 (pcC x) rfl rfl (World.news_of_block (cs := (pcC x).toArray) (t := 33) (fr := (0, 0)) (heap_alloc_new _ _)) (by simp [Value.oneCell', pcC]) (by unfold maxLen; omega) (by omega) (by have := HI.out.bel.size; simp; omega) ?_; intro v' w1 hown' hgrow _; obtain ⟨g', cap', rfl⟩ := ownsRow_succ hown'; obtain ⟨hv1, hv2, hr2, hk2, hb2⟩ := hv.appended (by decide) hrow HI.out.bel.size z5 hown' hgrow; have hc1 := hv1.cell; have hf1 := hv1.frozen)
    exact ⟨hk2.from _, keepT_append hv hrow hgrow hk2.size, ⟨⟨_, hv2, by simpa [cellsP_snoc] using hr2⟩, HI.out.bel.trans hb2, Nat.le_trans hNW hk2.size⟩⟩
  case done =>
    rintro D W hD hi hd
    obtain ⟨v, hv, hrow⟩ := hi.row
    have HI := Lib.hid hi
    have HO := Lib.hid hrow
    have HD := Lib.hid hd
    have t1 := hv.cell
    have hv1 : v.cells = #[v] := by
      rcases hrow.2 with ⟨rfl, _⟩ | ⟨g, cap, cur, rfl, _⟩ <;> rfl
    clear hi hv hrow hd
    dsimp only
    gi_wp2
    have BE := Lib.hid (HI.out.bel.trans (belowK_b (w := w) (Nat.le_refl _) W D _ (.deferred none) (by omega) HD.out rfl rfl))
    refine ⟨by simp, .inl ⟨_, _, rfl, run_takeDeferred HD.out, ?_⟩⟩
    refine ⟨_, ?_, v, rfl, ownsRow_putObj HO.out _ HD.out rfl, BE.out⟩
    simp [results, Tryd.results7]

end Go.Proofs.YtnmifeiokhpcfaaDoor
