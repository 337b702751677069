/-
  THE EXTREME RESULTS ON THE ENDS, for any operation.
-/
import Derived.Test.YtnhieokegidibaaEnds
import Derived.Test.YtnhieokegidibaaSpan

namespace Go.Proofs.Ytnhieokegidibaa
open Go.RowKit Go.Shelf
attribute [local go_sem] Oper.semAt_some

set_option maxRecDepth 100000 in
set_option maxHeartbeats 2000000 in
theorem ext_any (G : Nat) (hE : ∀ args w, (callFunc G args).run Try.prog w = .ok (.enter G args) w) (la ua lb ub : Int) (v : Bool → Bool → Int) (w : World) (hop : ∀ p q w, Calls Try.prog G #[.int .i64 (cond p ua la), .int .i64 (cond q ub lb)] w fun e w' => e = .returned (.int .i64 (v p q)) ∧ w = w') :
    Calls Try.prog 40 #[spanV la ua, spanV lb ub, .func (.func G) #[] #[]] w fun e w' => e = .returned (spanV (low4 v) (high4 v)) ∧ Below w.heap.size w w' := by
  have HOP := Lib.hid hop; clear hop
  refine (callsIn_wide (n := 3)).1 ?_
  refine callsIn_of_wp_marks Try.func40 rfl trivial ?_ rfl
  simp only [Try.ntmps40, List.size_toArray, List.length_cons, List.length_nil, Nat.reduceAdd, Nat.reduceSub, Array.replicate_succ, Array.replicate_zero, List.push_toArray, List.append_toArray, List.nil_append, List.cons_append]
  gi_wp2_with (refine ⟨trivial, ?_⟩; gi_at_call 47; refine (ends_in Fence.wide _ trivial rfl _ _ _ _ _).mono ?_; rintro e w' ⟨rfl, rfl⟩)
  have hB0 : ∀ o1 o2 o3 o4 o5 o6 o7 o8 : Obj, Below w.heap.size w ((((((((w.alloc o1).alloc o2).alloc o3).alloc o4).alloc o5).alloc o6).alloc o7).alloc o8) := fun _ _ _ _ _ _ _ _ => by
    repeat (first | exact Below.refl _ _ | refine Below.alloc ?_ (by simp <;> omega) _)
  refine wpIn_rangeFunc_ownF rfl (by omega) (gf := 49) (lb := #[.pointer (some ⟨w.heap.size + 1 + 1 + 1 + 1 + 1 + 1, 0, none⟩), .pointer (some ⟨w.heap.size + 1 + 1 + 1 + 1 + 1 + 1 + 1, 0, none⟩)]) rfl trivial (enters_of Try.func49 (by kernel_rfl) rfl)
    (ends_stops Fence.wide _ trivial rfl (by omega) (w.heap.size + 1 + 1 + 1 + 1 + 1 + 1) (w.heap.size + 1 + 1 + 1 + 1 + 1 + 1 + 1) la ua lb ub _ (by simp <;> omega) (by simp) (by go_simp) (by go_simp) (by go_simp) (by go_simp)) KeepC.t (KeepC.b) (Below.refl _ _) (fun _ => rfl)
    (fun pre W => Filled v (w.heap.size + 1 + 1 + 1 + 1) (w.heap.size + 1 + 1 + 1 + 1 + 1) (w.heap.size + 1 + 1) (w.heap.size + 1 + 1 + 1) G pre W ∧ Below w.heap.size w W)
    (fun _ _ _ => False)
    (OwnFrom.and (Own.from (Filled.own _ _ _ _ _ _) _) (ownFrom_below (Nat.le_refl _) (by simp <;> omega)))
    (fun _ _ _ _ _ hs _ _ => hs)
    ⟨Filled.start _ _ _ _ _ _ _ (by go_simp) (by go_simp) (by go_simp) (by go_simp) (by go_simp) (by go_simp) (by go_simp) (by go_simp) (by go_simp) (by go_simp) (by go_simp) (by go_simp) (by go_simp) (by go_simp) (by go_simp), hB0 _ _ _ _ _ _ _ _⟩
    (fun p => { tmps := #[spanV la ua, spanV lb ub, .func (.func G) #[] #[], .pointer (some ⟨w.heap.size, 0, none⟩), .pointer (some ⟨w.heap.size + 1, 0, none⟩), .pointer (some ⟨w.heap.size + 1 + 1, 0, none⟩), .pointer (some ⟨w.heap.size + 1 + 1 + 1, 0, none⟩), .pointer (some ⟨w.heap.size + 1 + 1 + 1 + 1, 0, none⟩), .pointer (some ⟨w.heap.size + 1 + 1 + 1 + 1 + 1, 0, none⟩), .int .i64 (cond p.1 ua la), .int .i64 (cond p.2 ub lb), .agg #[.int .i64 la, .int .i64 ua], .agg #[.int .i64 lb, .int .i64 ub], .func (.func 49) #[] #[.pointer (some ⟨w.heap.size + 1 + 1 + 1 + 1 + 1 + 1, 0, none⟩), .pointer (some ⟨w.heap.size + 1 + 1 + 1 + 1 + 1 + 1 + 1, 0, none⟩)], .int .i64 (cond p.1 ua la), .int .i64 (cond p.2 ub lb), undef, undef, undef, undef, undef, undef, undef, undef, undef, undef, undef, undef, undef, undef, undef, undef, undef, undef, undef, undef, undef, undef, undef, undef, undef, undef, undef], defers := [] }) ?assign ?body ?done ?stop
  case assign =>
    intro l x W K hK
    gi_wp2
    exact hK
  case body =>
    rintro l pre ⟨p, q⟩ W ⟨hF, hB⟩ hlen
    have ⟨hR, hRf⟩ := hF.1 pre.length hlen
    have ⟨hA, hAf⟩ := hF.2.1
    have hO := hF.2.2.1
    have HF := Lib.hid hF
    clear hF
    have hmx : Try.prog.follows .mixedOrders = true := by kernel_rfl
    gi_wp2
    gi_region_with_o (refine ⟨trivial, ?_⟩; refine (CallsIn.inRound l (callsIn_wide.2 (HOP.out p q _))).mono ?_; rintro e w' ⟨rfl, rfl⟩)
    all_goals gi_wp2
    all_goals (try go_bits)
    all_goals exact Filled.next p q HF.out hB (by omega) (by omega) (by omega) (by omega) (by omega) (by omega) (by omega) (by omega) (by omega)
  case done =>
    rintro D ys W hD rfl ⟨hF, hB⟩ hK
    have ⟨r0, _⟩ := hF.1 0 (by omega)
    have ⟨r1, _⟩ := hF.1 1 (by omega)
    have ⟨r2, _⟩ := hF.1 2 (by omega)
    have ⟨r3, _⟩ := hF.1 3 (by omega)
    have ⟨⟨s0, s1⟩, t0, t1⟩ := hF.2.2.2
    rw [show nth4 v _ 0 = v false false from rfl] at r0
    rw [show nth4 v _ 1 = v false true from rfl] at r1
    rw [show nth4 v _ 2 = v true false from rfl] at r2
    rw [show nth4 v _ 3 = v true true from rfl] at r3
    have HF := Lib.hid hF
    clear hF
    have hmn : ∀ a b c d w, Sem.run Try.prog (Builtin.min_ #[3, 3, 3, 3] 3 #[.int .i64 a, .int .i64 b, .int .i64 c, .int .i64 d]) w = .ok (.int .i64 (mn (mn (mn a b) c) d)) w := fun a b c d w => by kernel_rfl
    have hmx : ∀ a b c d w, Sem.run Try.prog (Builtin.max_ #[3, 3, 3, 3] 3 #[.int .i64 a, .int .i64 b, .int .i64 c, .int .i64 d]) w = .ok (.int .i64 (mx (mx (mx a b) c) d)) w := fun a b c d w => by kernel_rfl
    gi_wp2
    rw [low4_fold, high4_fold]
    have hK' : ((W.setCell ⟨w.heap.size + 1 + 1 + 1, 0, none⟩ (.int .i64 (low4 v))).setCell ⟨w.heap.size + 1 + 1 + 1, 1, none⟩ (.int .i64 (high4 v))).heap[D]? = some (.deferred (some [])) :=
      ((KeepsOthers.setCell _ _ _).trans (KeepsOthers.setCell _ _ _)).same D _ hK rfl
    refine ⟨by simp, .inl ⟨_, _, rfl, run_takeDeferred hK', ?_⟩⟩
    have q0 := cell_kept (W := (W.setCell ⟨w.heap.size + 1 + 1 + 1, 0, none⟩ (.int .i64 (low4 v))).setCell ⟨w.heap.size + 1 + 1 + 1, 1, none⟩ (.int .i64 (high4 v))) (a := ⟨w.heap.size + 1 + 1 + 1, 0, none⟩) (v := .int .i64 (low4 v))
      (by rw [World.cell?_setCell_other _ _ _ _ (fun k => by have e := congrArg Addr.off k; simp at e), World.cell?_setCell_same' _ _ _ (by rw [s0]; rfl)]) (grownBy_putObj' _ D (.deferred none)) (fun r e => by cases e; exact ⟨_, hK', rfl⟩)
    have q1 := cell_kept (W := (W.setCell ⟨w.heap.size + 1 + 1 + 1, 0, none⟩ (.int .i64 (low4 v))).setCell ⟨w.heap.size + 1 + 1 + 1, 1, none⟩ (.int .i64 (high4 v))) (a := ⟨w.heap.size + 1 + 1 + 1, 1, none⟩) (v := .int .i64 (high4 v))
      (World.cell?_setCell_same' _ _ _ (by rw [World.cell?_setCell_other _ _ _ _ (fun k => by have e := congrArg Addr.off k; simp at e), s1]; rfl)) (grownBy_putObj' _ D (.deferred none)) (fun r e => by cases e; exact ⟨_, hK', rfl⟩)
    refine ⟨spanV (low4 v) (high4 v), ?_, rfl, ?_⟩
    · simp [results, Try.results40, go_sem, q0, q1]
    · exact ((hB.setCell (p := ⟨w.heap.size + 1 + 1 + 1, 0, none⟩) (by show w.heap.size ≤ w.heap.size + 1 + 1 + 1; omega) _).setCell (p := ⟨w.heap.size + 1 + 1 + 1, 1, none⟩) (by show w.heap.size ≤ w.heap.size + 1 + 1 + 1; omega) _).trans (belowK_b (w := w) (Nat.le_refl _) _ D _ _ (by simp at hD; omega) hK' rfl rfl)
  case stop =>
    rintro D c pre W _ _ h _
    exact h.elim

end Go.Proofs.Ytnhieokegidibaa
