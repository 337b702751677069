/-
  SUMS, DIFFERENCES AND PRODUCTS OF SPANS.
-/
import Derived.Test.YtnhieokegidibaaExt

namespace Go.Proofs.Ytnhieokegidibaa
open Go.RowKit

/-- what is left of the results from l to h within the valid integers -/
def okC (l h : Int) : Bool := decide (l ≤ 2147483647) && decide (-2147483647 ≤ h)
def cutL (l h : Int) : Int := if okC l h then mx l (-2147483647) else 0
def cutH (l h : Int) : Int := if okC l h then mn h 2147483647 else 0
def cutM (l h : Int) : Bool := okC l h && (decide (l < -2147483647) || decide (2147483647 < h))
def cutE (l h : Int) : Int := if okC l h then 0 else 3
/-- both spans valid -/
def bsp (la ua lb ub : Int) : Bool := vsp la ua && vsp lb ub
abbrev opV (l h : Int) (m : Bool) (e : Int) : Value := .tuple #[spanV l h, .bool m, .int .i64 e]
theorem okC_vsp {l h : Int} (hlh : l ≤ h) : vsp (mx l (-2147483647)) (mn h 2147483647) = okC l h := by
  unfold mx mn
  cases ho : okC l h
  · simp [okC] at ho
    cases hv : vsp (if l < -2147483647 then -2147483647 else l) (if 2147483647 < h then 2147483647 else h)
    · rfl
    · have ⟨k1, k2, k3⟩ := vsp_iff.1 hv
      by_cases c : l ≤ 2147483647
      · have := ho c
        rw [if_neg (by omega)] at k2
        omega
      · rw [if_neg (by omega)] at k1
        omega
  · simp [okC] at ho
    rw [vsp_iff]
    by_cases c1 : l < -2147483647 <;> by_cases c2 : 2147483647 < h <;> simp [c1, c2] <;> omega

set_option maxHeartbeats 800000 in
theorem opadd_any (x y : Int) (w : World) (h1 : -2147483647 ≤ x) (h2 : x ≤ 2147483647) (h3 : -2147483647 ≤ y) (h4 : y ≤ 2147483647) :
    Calls Try.prog 33 #[.int .i64 x, .int .i64 y] w fun e w' => e = .returned (.int .i64 (x + y)) ∧ w = w' := by
  go_enter Try.func33, Try.ntmps33
  go_wp2
  go_ret
  exact ⟨rfl, rfl⟩

set_option maxHeartbeats 800000 in
theorem opsub_any (x y : Int) (w : World) (h1 : -2147483647 ≤ x) (h2 : x ≤ 2147483647) (h3 : -2147483647 ≤ y) (h4 : y ≤ 2147483647) :
    Calls Try.prog 35 #[.int .i64 x, .int .i64 y] w fun e w' => e = .returned (.int .i64 (x - y)) ∧ w = w' := by
  go_enter Try.func35, Try.ntmps35
  go_wp2
  go_ret
  exact ⟨rfl, rfl⟩

set_option maxHeartbeats 800000 in
theorem opmul_any (x y : Int) (w : World) (h1 : -2147483647 ≤ x) (h2 : x ≤ 2147483647) (h3 : -2147483647 ≤ y) (h4 : y ≤ 2147483647) :
    Calls Try.prog 36 #[.int .i64 x, .int .i64 y] w fun e w' => e = .returned (.int .i64 (x * y)) ∧ w = w' := by
  have ⟨p1, p2⟩ := prod_le (a := x) (b := y) ⟨h1, h2⟩ ⟨h3, h4⟩
  go_enter Try.func36, Try.ntmps36
  go_wp2
  go_ret
  exact ⟨rfl, rfl⟩

/-- what lay in memory lies there still -/
theorem carry {W w1 : World} (hb : Below W.heap.size W w1) {b o : Nat} {v : Value} (h : W.cell? ⟨b, o, none⟩ = some v) : w1.cell? ⟨b, o, none⟩ = some v := by
  obtain ⟨ob, ho, _⟩ := cells_of_cell h
  exact (hb.cell (p := ⟨b, o, none⟩) (Array.getElem?_eq_some_iff.1 ho).1).trans h
theorem carryF {W w1 : World} (hb : Below W.heap.size W w1) {b o : Nat} {v : Value} (h : W.cell? ⟨b, o, none⟩ = some v) (hf : W.frozen? ⟨b, o, none⟩ = false) : w1.frozen? ⟨b, o, none⟩ = false := by
  obtain ⟨ob, ho, _⟩ := cells_of_cell h
  exact (hb.frozen (p := ⟨b, o, none⟩) (Array.getElem?_eq_some_iff.1 ho).1).trans hf

set_option maxRecDepth 100000 in
set_option maxHeartbeats 1600000 in
theorem clip_no (G : Nat) (la ua lb ub : Int) (w : World) (hb : bsp la ua lb ub = false) :
    Calls Try.prog 32 #[spanV la ua, spanV lb ub, .func (.func G) #[] #[]] w fun e w' => e = .returned (opV 0 0 false 1) ∧ Below w.heap.size w w' := by
  have HB := Lib.hid hb
  clear hb
  go_enter Try.func32, Try.ntmps32
  go_wp2_with fail
  refine (bsp_any _ _ _ _ _).mono ?_
  rintro e w1 ⟨rfl, hb1⟩
  have a0 : w1.cell? ⟨w.heap.size, 0, none⟩ = some (.int .i64 la) := carry hb1 (by go_simp)
  have a1 : w1.cell? ⟨w.heap.size, 1, none⟩ = some (.int .i64 ua) := carry hb1 (by go_simp)
  have b0 : w1.cell? ⟨w.heap.size + 1, 0, none⟩ = some (.int .i64 lb) := carry hb1 (by go_simp)
  have b1 : w1.cell? ⟨w.heap.size + 1, 1, none⟩ = some (.int .i64 ub) := carry hb1 (by go_simp)
  have r0 : w1.cell? ⟨w.heap.size + 1 + 1, 0, none⟩ = some (.int .i64 0) := carry hb1 (by go_simp)
  have r1 : w1.cell? ⟨w.heap.size + 1 + 1, 1, none⟩ = some (.int .i64 0) := carry hb1 (by go_simp)
  have f0 : w1.frozen? ⟨w.heap.size + 1 + 1, 0, none⟩ = false := carryF hb1 (v := .int .i64 0) (by go_simp) (by go_simp)
  have f1 : w1.frozen? ⟨w.heap.size + 1 + 1, 1, none⟩ = false := carryF hb1 (v := .int .i64 0) (by go_simp) (by go_simp)
  have hz1 : w.heap.size + 1 + 1 < w1.heap.size := by have := hb1.size; simp at this; omega
  have hB1 : Below w.heap.size w w1 := (by repeat (first | exact Below.refl _ _ | refine Below.alloc ?_ (by simp <;> omega) _) : Below w.heap.size w (((w.alloc _).alloc _).alloc _)).trans (hb1.mono (by simp <;> omega))
  have HBB := Lib.hid hB1
  clear hb1 hB1 a0 a1 b0 b1
  rw [show (vsp la ua && vsp lb ub) = false from HB.out]
  go_wp2_with fail
  refine bodyPost_ret (v := opV 0 0 false 1) ?_ rfl ⟨rfl, ?_⟩
  · simp [results, Try.results32, go_sem, r0, r1]
  · exact (HBB.out.setCell (p := ⟨w.heap.size + 1 + 1, 0, none⟩) (by show w.heap.size ≤ w.heap.size + 1 + 1; omega) _).setCell (p := ⟨w.heap.size + 1 + 1, 1, none⟩) (by show w.heap.size ≤ w.heap.size + 1 + 1; omega) _

set_option maxRecDepth 100000 in
set_option maxHeartbeats 1600000 in
theorem clip_any (G : Nat) (hE : ∀ args w, (callFunc G args).run Try.prog w = .ok (.enter G args) w) (la ua lb ub : Int) (v : Bool → Bool → Int) (w : World) (hb : bsp la ua lb ub = true) (hlh : low4 v ≤ high4 v)
    (hop : ∀ p q w, Calls Try.prog G #[.int .i64 (cond p ua la), .int .i64 (cond q ub lb)] w fun e w' => e = .returned (.int .i64 (v p q)) ∧ w = w') :
    Calls Try.prog 32 #[spanV la ua, spanV lb ub, .func (.func G) #[] #[]] w fun e w' => e = .returned (opV (cutL (low4 v) (high4 v)) (cutH (low4 v) (high4 v)) (cutM (low4 v) (high4 v)) (cutE (low4 v) (high4 v))) ∧ Below w.heap.size w w' := by
  have HO := Lib.hid hop
  have HE := Lib.hid hE
  have HB := Lib.hid hb
  clear hop hE hb
  have hx := ext_any G HE.out la ua lb ub v
  have HX := Lib.hid hx
  clear hx
  have HLH := Lib.hid hlh
  clear hlh
  go_enter Try.func32, Try.ntmps32
  go_wp2_with fail
  refine (bsp_any _ _ _ _ _).mono ?_
  rintro e w1 ⟨rfl, hb1⟩
  have a0 : w1.cell? ⟨w.heap.size, 0, none⟩ = some (.int .i64 la) := carry hb1 (by go_simp)
  have a1 : w1.cell? ⟨w.heap.size, 1, none⟩ = some (.int .i64 ua) := carry hb1 (by go_simp)
  have b0 : w1.cell? ⟨w.heap.size + 1, 0, none⟩ = some (.int .i64 lb) := carry hb1 (by go_simp)
  have b1 : w1.cell? ⟨w.heap.size + 1, 1, none⟩ = some (.int .i64 ub) := carry hb1 (by go_simp)
  have r0 : w1.cell? ⟨w.heap.size + 1 + 1, 0, none⟩ = some (.int .i64 0) := carry hb1 (by go_simp)
  have r1 : w1.cell? ⟨w.heap.size + 1 + 1, 1, none⟩ = some (.int .i64 0) := carry hb1 (by go_simp)
  have f0 : w1.frozen? ⟨w.heap.size + 1 + 1, 0, none⟩ = false := carryF hb1 (v := .int .i64 0) (by go_simp) (by go_simp)
  have f1 : w1.frozen? ⟨w.heap.size + 1 + 1, 1, none⟩ = false := carryF hb1 (v := .int .i64 0) (by go_simp) (by go_simp)
  have hz1 : w.heap.size + 1 + 1 < w1.heap.size := by have := hb1.size; simp at this; omega
  have hB1 : Below w.heap.size w w1 := (by repeat (first | exact Below.refl _ _ | refine Below.alloc ?_ (by simp <;> omega) _) : Below w.heap.size w (((w.alloc _).alloc _).alloc _)).trans (hb1.mono (by simp <;> omega))
  clear hb1
  rw [show (vsp la ua && vsp lb ub) = true from HB.out]
  go_wp2_with fail
  refine (HX.out _ HO.out).mono ?_
  rintro e w2 ⟨rfl, hb2⟩
  have r0 := carry hb2 r0
  have r1 := carry hb2 r1
  have f0 := carryF hb2 (by assumption) f0
  have f1 := carryF hb2 (by assumption) f1
  have hz2 : w.heap.size + 1 + 1 < w2.heap.size := by have := hb2.size; omega
  have hB2 := hB1.trans (hb2.mono (by omega))
  clear HX HO HE a0 a1 b0 b1 hb2 hB1 hz1
  generalize hLd : low4 v = L at *
  generalize hUd : high4 v = U at *
  have HLD := Lib.hid (And.intro hLd hUd)
  clear hLd hUd
  rcases (by omega : L < -2147483647 ∨ -2147483647 ≤ L) with hL | hL
  · rcases (by omega : 2147483647 < U ∨ U ≤ 2147483647) with hU | hU
    · have e := okC_vsp HLH.out
      rw [mx, mn, if_pos hL, if_pos hU] at e
      cases hok : okC L U
      · rw [hok] at e
        have HV := Lib.hid e
        have HK := Lib.hid hok
        clear e hok
        go_wp2_with fail
        refine (vspan_any _ _ _).mono ?_
        rintro e w3 ⟨rfl, hb3⟩
        rw [HV.out]
        have q0 : w3.cell? ⟨w.heap.size + 1 + 1, 0, none⟩ = some (.int .i64 (-2147483647)) := carry hb3 (by go_simp)
        have q1 : w3.cell? ⟨w.heap.size + 1 + 1, 1, none⟩ = some (.int .i64 2147483647) := carry hb3 (by go_simp)
        have g0 : w3.frozen? ⟨w.heap.size + 1 + 1, 0, none⟩ = false := carryF hb3 (v := .int .i64 (-2147483647)) (by go_simp) (by go_simp)
        have g1 : w3.frozen? ⟨w.heap.size + 1 + 1, 1, none⟩ = false := carryF hb3 (v := .int .i64 2147483647) (by go_simp) (by go_simp)
        have HBB := Lib.hid ((((hB2.setCell (p := ⟨w.heap.size + 1 + 1, 0, none⟩) (by show w.heap.size ≤ w.heap.size + 1 + 1; omega) (.int .i64 (-2147483647))).setCell (p := ⟨w.heap.size + 1 + 1, 1, none⟩) (by show w.heap.size ≤ w.heap.size + 1 + 1; omega) (.int .i64 2147483647)).alloc (by simp; omega) (.cells #[.int .i64 L, .int .i64 U] 23)).trans (hb3.mono (by simp; omega)))
        clear hb3 hB2 r0 r1 f0 f1
        go_wp2_with fail
        refine bodyPost_ret (v := opV 0 0 false 3) ?_ rfl ⟨?_, ?_⟩
        · simp [results, Try.results32, go_sem, q0, q1]
        · rw [HLD.out.1, HLD.out.2]; simp [cutL, cutH, cutM, cutE, HK.out]
        · exact (HBB.out.setCell (p := ⟨w.heap.size + 1 + 1, 0, none⟩) (by show w.heap.size ≤ w.heap.size + 1 + 1; omega) _).setCell (p := ⟨w.heap.size + 1 + 1, 1, none⟩) (by show w.heap.size ≤ w.heap.size + 1 + 1; omega) _
      · rw [hok] at e
        have HV := Lib.hid e
        have HK := Lib.hid hok
        clear e hok
        go_wp2_with fail
        refine (vspan_any _ _ _).mono ?_
        rintro e w3 ⟨rfl, hb3⟩
        rw [HV.out]
        have q0 : w3.cell? ⟨w.heap.size + 1 + 1, 0, none⟩ = some (.int .i64 (-2147483647)) := carry hb3 (by go_simp)
        have q1 : w3.cell? ⟨w.heap.size + 1 + 1, 1, none⟩ = some (.int .i64 2147483647) := carry hb3 (by go_simp)
        have g0 : w3.frozen? ⟨w.heap.size + 1 + 1, 0, none⟩ = false := carryF hb3 (v := .int .i64 (-2147483647)) (by go_simp) (by go_simp)
        have g1 : w3.frozen? ⟨w.heap.size + 1 + 1, 1, none⟩ = false := carryF hb3 (v := .int .i64 2147483647) (by go_simp) (by go_simp)
        have x0 : w3.cell? ⟨w2.heap.size, 0, none⟩ = some (.int .i64 L) := carry hb3 (by go_simp)
        have x1 : w3.cell? ⟨w2.heap.size, 1, none⟩ = some (.int .i64 U) := carry hb3 (by go_simp)
        have HBB := Lib.hid ((((hB2.setCell (p := ⟨w.heap.size + 1 + 1, 0, none⟩) (by show w.heap.size ≤ w.heap.size + 1 + 1; omega) (.int .i64 (-2147483647))).setCell (p := ⟨w.heap.size + 1 + 1, 1, none⟩) (by show w.heap.size ≤ w.heap.size + 1 + 1; omega) (.int .i64 2147483647)).alloc (by simp; omega) (.cells #[.int .i64 L, .int .i64 U] 23)).trans (hb3.mono (by simp; omega)))
        clear hb3 hB2 r0 r1 f0 f1
        go_wp2_with fail
        go_region
        all_goals go_wp2_with fail
        all_goals refine bodyPost_ret (v := opV ((-2147483647)) (2147483647) true 0) ?_ rfl ⟨?_, ?_⟩
        all_goals (first | (simp [results, Try.results32, go_sem, q0, q1]; done) | (rw [HLD.out.1, HLD.out.2]; simp [cutL, cutH, cutM, cutE, HK.out, mx, mn] <;> omega) | exact ((HBB.out.setCell (p := ⟨w.heap.size + 1 + 1, 0, none⟩) (by show w.heap.size ≤ w.heap.size + 1 + 1; omega) _).setCell (p := ⟨w.heap.size + 1 + 1, 1, none⟩) (by show w.heap.size ≤ w.heap.size + 1 + 1; omega) _).drew)
    · have e := okC_vsp HLH.out
      rw [mx, mn, if_pos hL, if_neg (by omega)] at e
      cases hok : okC L U
      · rw [hok] at e
        have HV := Lib.hid e
        have HK := Lib.hid hok
        clear e hok
        go_wp2_with fail
        refine (vspan_any _ _ _).mono ?_
        rintro e w3 ⟨rfl, hb3⟩
        rw [HV.out]
        have q0 : w3.cell? ⟨w.heap.size + 1 + 1, 0, none⟩ = some (.int .i64 (-2147483647)) := carry hb3 (by go_simp)
        have q1 : w3.cell? ⟨w.heap.size + 1 + 1, 1, none⟩ = some (.int .i64 U) := carry hb3 (by go_simp)
        have g0 : w3.frozen? ⟨w.heap.size + 1 + 1, 0, none⟩ = false := carryF hb3 (v := .int .i64 (-2147483647)) (by go_simp) (by go_simp)
        have g1 : w3.frozen? ⟨w.heap.size + 1 + 1, 1, none⟩ = false := carryF hb3 (v := .int .i64 U) (by go_simp) (by go_simp)
        have HBB := Lib.hid ((((hB2.setCell (p := ⟨w.heap.size + 1 + 1, 0, none⟩) (by show w.heap.size ≤ w.heap.size + 1 + 1; omega) (.int .i64 (-2147483647))).setCell (p := ⟨w.heap.size + 1 + 1, 1, none⟩) (by show w.heap.size ≤ w.heap.size + 1 + 1; omega) (.int .i64 U)).alloc (by simp; omega) (.cells #[.int .i64 L, .int .i64 U] 23)).trans (hb3.mono (by simp; omega)))
        clear hb3 hB2 r0 r1 f0 f1
        go_wp2_with fail
        refine bodyPost_ret (v := opV 0 0 false 3) ?_ rfl ⟨?_, ?_⟩
        · simp [results, Try.results32, go_sem, q0, q1]
        · rw [HLD.out.1, HLD.out.2]; simp [cutL, cutH, cutM, cutE, HK.out]
        · exact (HBB.out.setCell (p := ⟨w.heap.size + 1 + 1, 0, none⟩) (by show w.heap.size ≤ w.heap.size + 1 + 1; omega) _).setCell (p := ⟨w.heap.size + 1 + 1, 1, none⟩) (by show w.heap.size ≤ w.heap.size + 1 + 1; omega) _
      · rw [hok] at e
        have HV := Lib.hid e
        have HK := Lib.hid hok
        clear e hok
        go_wp2_with fail
        refine (vspan_any _ _ _).mono ?_
        rintro e w3 ⟨rfl, hb3⟩
        rw [HV.out]
        have q0 : w3.cell? ⟨w.heap.size + 1 + 1, 0, none⟩ = some (.int .i64 (-2147483647)) := carry hb3 (by go_simp)
        have q1 : w3.cell? ⟨w.heap.size + 1 + 1, 1, none⟩ = some (.int .i64 U) := carry hb3 (by go_simp)
        have g0 : w3.frozen? ⟨w.heap.size + 1 + 1, 0, none⟩ = false := carryF hb3 (v := .int .i64 (-2147483647)) (by go_simp) (by go_simp)
        have g1 : w3.frozen? ⟨w.heap.size + 1 + 1, 1, none⟩ = false := carryF hb3 (v := .int .i64 U) (by go_simp) (by go_simp)
        have x0 : w3.cell? ⟨w2.heap.size, 0, none⟩ = some (.int .i64 L) := carry hb3 (by go_simp)
        have x1 : w3.cell? ⟨w2.heap.size, 1, none⟩ = some (.int .i64 U) := carry hb3 (by go_simp)
        have HBB := Lib.hid ((((hB2.setCell (p := ⟨w.heap.size + 1 + 1, 0, none⟩) (by show w.heap.size ≤ w.heap.size + 1 + 1; omega) (.int .i64 (-2147483647))).setCell (p := ⟨w.heap.size + 1 + 1, 1, none⟩) (by show w.heap.size ≤ w.heap.size + 1 + 1; omega) (.int .i64 U)).alloc (by simp; omega) (.cells #[.int .i64 L, .int .i64 U] 23)).trans (hb3.mono (by simp; omega)))
        clear hb3 hB2 r0 r1 f0 f1
        go_wp2_with fail
        go_region
        all_goals go_wp2_with fail
        all_goals refine bodyPost_ret (v := opV ((-2147483647)) (U) true 0) ?_ rfl ⟨?_, ?_⟩
        all_goals (first | (simp [results, Try.results32, go_sem, q0, q1]; done) | (rw [HLD.out.1, HLD.out.2]; simp [cutL, cutH, cutM, cutE, HK.out, mx, mn] <;> omega) | exact ((HBB.out.setCell (p := ⟨w.heap.size + 1 + 1, 0, none⟩) (by show w.heap.size ≤ w.heap.size + 1 + 1; omega) _).setCell (p := ⟨w.heap.size + 1 + 1, 1, none⟩) (by show w.heap.size ≤ w.heap.size + 1 + 1; omega) _).drew)
  · rcases (by omega : 2147483647 < U ∨ U ≤ 2147483647) with hU | hU
    · have e := okC_vsp HLH.out
      rw [mx, mn, if_neg (by omega), if_pos hU] at e
      cases hok : okC L U
      · rw [hok] at e
        have HV := Lib.hid e
        have HK := Lib.hid hok
        clear e hok
        go_wp2_with fail
        refine (vspan_any _ _ _).mono ?_
        rintro e w3 ⟨rfl, hb3⟩
        rw [HV.out]
        have q0 : w3.cell? ⟨w.heap.size + 1 + 1, 0, none⟩ = some (.int .i64 L) := carry hb3 (by go_simp)
        have q1 : w3.cell? ⟨w.heap.size + 1 + 1, 1, none⟩ = some (.int .i64 2147483647) := carry hb3 (by go_simp)
        have g0 : w3.frozen? ⟨w.heap.size + 1 + 1, 0, none⟩ = false := carryF hb3 (v := .int .i64 L) (by go_simp) (by go_simp)
        have g1 : w3.frozen? ⟨w.heap.size + 1 + 1, 1, none⟩ = false := carryF hb3 (v := .int .i64 2147483647) (by go_simp) (by go_simp)
        have HBB := Lib.hid ((((hB2.setCell (p := ⟨w.heap.size + 1 + 1, 0, none⟩) (by show w.heap.size ≤ w.heap.size + 1 + 1; omega) (.int .i64 L)).setCell (p := ⟨w.heap.size + 1 + 1, 1, none⟩) (by show w.heap.size ≤ w.heap.size + 1 + 1; omega) (.int .i64 2147483647)).alloc (by simp; omega) (.cells #[.int .i64 L, .int .i64 U] 23)).trans (hb3.mono (by simp; omega)))
        clear hb3 hB2 r0 r1 f0 f1
        go_wp2_with fail
        refine bodyPost_ret (v := opV 0 0 false 3) ?_ rfl ⟨?_, ?_⟩
        · simp [results, Try.results32, go_sem, q0, q1]
        · rw [HLD.out.1, HLD.out.2]; simp [cutL, cutH, cutM, cutE, HK.out]
        · exact (HBB.out.setCell (p := ⟨w.heap.size + 1 + 1, 0, none⟩) (by show w.heap.size ≤ w.heap.size + 1 + 1; omega) _).setCell (p := ⟨w.heap.size + 1 + 1, 1, none⟩) (by show w.heap.size ≤ w.heap.size + 1 + 1; omega) _
      · rw [hok] at e
        have HV := Lib.hid e
        have HK := Lib.hid hok
        clear e hok
        go_wp2_with fail
        refine (vspan_any _ _ _).mono ?_
        rintro e w3 ⟨rfl, hb3⟩
        rw [HV.out]
        have q0 : w3.cell? ⟨w.heap.size + 1 + 1, 0, none⟩ = some (.int .i64 L) := carry hb3 (by go_simp)
        have q1 : w3.cell? ⟨w.heap.size + 1 + 1, 1, none⟩ = some (.int .i64 2147483647) := carry hb3 (by go_simp)
        have g0 : w3.frozen? ⟨w.heap.size + 1 + 1, 0, none⟩ = false := carryF hb3 (v := .int .i64 L) (by go_simp) (by go_simp)
        have g1 : w3.frozen? ⟨w.heap.size + 1 + 1, 1, none⟩ = false := carryF hb3 (v := .int .i64 2147483647) (by go_simp) (by go_simp)
        have x0 : w3.cell? ⟨w2.heap.size, 0, none⟩ = some (.int .i64 L) := carry hb3 (by go_simp)
        have x1 : w3.cell? ⟨w2.heap.size, 1, none⟩ = some (.int .i64 U) := carry hb3 (by go_simp)
        have HBB := Lib.hid ((((hB2.setCell (p := ⟨w.heap.size + 1 + 1, 0, none⟩) (by show w.heap.size ≤ w.heap.size + 1 + 1; omega) (.int .i64 L)).setCell (p := ⟨w.heap.size + 1 + 1, 1, none⟩) (by show w.heap.size ≤ w.heap.size + 1 + 1; omega) (.int .i64 2147483647)).alloc (by simp; omega) (.cells #[.int .i64 L, .int .i64 U] 23)).trans (hb3.mono (by simp; omega)))
        clear hb3 hB2 r0 r1 f0 f1
        go_wp2_with fail
        go_region
        all_goals go_wp2_with fail
        all_goals refine bodyPost_ret (v := opV (L) (2147483647) true 0) ?_ rfl ⟨?_, ?_⟩
        all_goals (first | (simp [results, Try.results32, go_sem, q0, q1]; done) | (rw [HLD.out.1, HLD.out.2]; simp [cutL, cutH, cutM, cutE, HK.out, mx, mn] <;> omega) | exact ((HBB.out.setCell (p := ⟨w.heap.size + 1 + 1, 0, none⟩) (by show w.heap.size ≤ w.heap.size + 1 + 1; omega) _).setCell (p := ⟨w.heap.size + 1 + 1, 1, none⟩) (by show w.heap.size ≤ w.heap.size + 1 + 1; omega) _).drew)
    · have e := okC_vsp HLH.out
      rw [mx, mn, if_neg (by omega), if_neg (by omega)] at e
      cases hok : okC L U
      · rw [hok] at e
        have HV := Lib.hid e
        have HK := Lib.hid hok
        clear e hok
        go_wp2_with fail
        refine (vspan_any _ _ _).mono ?_
        rintro e w3 ⟨rfl, hb3⟩
        rw [HV.out]
        have q0 : w3.cell? ⟨w.heap.size + 1 + 1, 0, none⟩ = some (.int .i64 L) := carry hb3 (by go_simp)
        have q1 : w3.cell? ⟨w.heap.size + 1 + 1, 1, none⟩ = some (.int .i64 U) := carry hb3 (by go_simp)
        have g0 : w3.frozen? ⟨w.heap.size + 1 + 1, 0, none⟩ = false := carryF hb3 (v := .int .i64 L) (by go_simp) (by go_simp)
        have g1 : w3.frozen? ⟨w.heap.size + 1 + 1, 1, none⟩ = false := carryF hb3 (v := .int .i64 U) (by go_simp) (by go_simp)
        have HBB := Lib.hid ((((hB2.setCell (p := ⟨w.heap.size + 1 + 1, 0, none⟩) (by show w.heap.size ≤ w.heap.size + 1 + 1; omega) (.int .i64 L)).setCell (p := ⟨w.heap.size + 1 + 1, 1, none⟩) (by show w.heap.size ≤ w.heap.size + 1 + 1; omega) (.int .i64 U)).alloc (by simp; omega) (.cells #[.int .i64 L, .int .i64 U] 23)).trans (hb3.mono (by simp; omega)))
        clear hb3 hB2 r0 r1 f0 f1
        go_wp2_with fail
        refine bodyPost_ret (v := opV 0 0 false 3) ?_ rfl ⟨?_, ?_⟩
        · simp [results, Try.results32, go_sem, q0, q1]
        · rw [HLD.out.1, HLD.out.2]; simp [cutL, cutH, cutM, cutE, HK.out]
        · exact (HBB.out.setCell (p := ⟨w.heap.size + 1 + 1, 0, none⟩) (by show w.heap.size ≤ w.heap.size + 1 + 1; omega) _).setCell (p := ⟨w.heap.size + 1 + 1, 1, none⟩) (by show w.heap.size ≤ w.heap.size + 1 + 1; omega) _
      · rw [hok] at e
        have HV := Lib.hid e
        have HK := Lib.hid hok
        clear e hok
        go_wp2_with fail
        refine (vspan_any _ _ _).mono ?_
        rintro e w3 ⟨rfl, hb3⟩
        rw [HV.out]
        have q0 : w3.cell? ⟨w.heap.size + 1 + 1, 0, none⟩ = some (.int .i64 L) := carry hb3 (by go_simp)
        have q1 : w3.cell? ⟨w.heap.size + 1 + 1, 1, none⟩ = some (.int .i64 U) := carry hb3 (by go_simp)
        have g0 : w3.frozen? ⟨w.heap.size + 1 + 1, 0, none⟩ = false := carryF hb3 (v := .int .i64 L) (by go_simp) (by go_simp)
        have g1 : w3.frozen? ⟨w.heap.size + 1 + 1, 1, none⟩ = false := carryF hb3 (v := .int .i64 U) (by go_simp) (by go_simp)
        have x0 : w3.cell? ⟨w2.heap.size, 0, none⟩ = some (.int .i64 L) := carry hb3 (by go_simp)
        have x1 : w3.cell? ⟨w2.heap.size, 1, none⟩ = some (.int .i64 U) := carry hb3 (by go_simp)
        have HBB := Lib.hid ((((hB2.setCell (p := ⟨w.heap.size + 1 + 1, 0, none⟩) (by show w.heap.size ≤ w.heap.size + 1 + 1; omega) (.int .i64 L)).setCell (p := ⟨w.heap.size + 1 + 1, 1, none⟩) (by show w.heap.size ≤ w.heap.size + 1 + 1; omega) (.int .i64 U)).alloc (by simp; omega) (.cells #[.int .i64 L, .int .i64 U] 23)).trans (hb3.mono (by simp; omega)))
        clear hb3 hB2 r0 r1 f0 f1
        go_wp2_with fail
        go_region
        all_goals go_wp2_with fail
        all_goals refine bodyPost_ret (v := opV (L) (U) false 0) ?_ rfl ⟨?_, ?_⟩
        all_goals (first | (simp [results, Try.results32, go_sem, q0, q1]; done) | (rw [HLD.out.1, HLD.out.2]; simp [cutL, cutH, cutM, cutE, HK.out, mx, mn] <;> omega) | exact ((HBB.out.setCell (p := ⟨w.heap.size + 1 + 1, 0, none⟩) (by show w.heap.size ≤ w.heap.size + 1 + 1; omega) _).setCell (p := ⟨w.heap.size + 1 + 1, 1, none⟩) (by show w.heap.size ≤ w.heap.size + 1 + 1; omega) _).drew)

end Go.Proofs.Ytnhieokegidibaa
