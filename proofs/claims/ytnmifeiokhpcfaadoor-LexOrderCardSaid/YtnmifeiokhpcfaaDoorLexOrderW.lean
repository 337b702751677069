/-
  LexOrder: the ways.
-/
import Derived.Test.YtnmifeiokhpcfaaDoorLexPc
import Derived.Test.YtnmifeiokhpcfaaDoorLex17
import Derived.Deep.QuietTactic
import Derived.BigQuiet
import Derived.StillTailTactics
import Derived.WalkKit

namespace Go.Proofs.YtnmifeiokhpcfaaDoor.lexOrder
open Go.RowKit
set_option linter.unusedVariables false

set_option maxRecDepth 100000 in
set_option maxHeartbeats 1600000 in
theorem run_err (s : ByteArray) (er at_ : Int) (he : (er != 0) = true) (w : World) (AW : Hid (Calls Tryd.prog 5 #[] w fun e w' => e = .returned (.bool true) ∧ Below w.heap.size w w')) (LX : Hid (∀ w1, Below w.heap.size w w1 → Calls Tryd.prog 6 #[.string s] w1 fun r w' => r = .returned (.tuple #[.slice none 0 0, .int .i64 er, .int .i64 at_]) ∧ Below w1.heap.size w1 w')) (CM : Hid (∀ w1, Below w.heap.size w w1 → Calls Tryd.prog 7 #[.string s] w1 fun r w' => r = .returned (.tuple #[.slice none 0 0, .int .i64 er, .int .i64 at_]) ∧ Below w1.heap.size w1 w')) :
    Calls Tryd.prog 3 #[.string s] w fun e w' => e = .returned (.bool true) ∧ Below w.heap.size w w' := by
  have he2 : (er != er) = false := by simp
  go_enter Tryd.func3, Tryd.ntmps3
  go_wp2_with fail
  refine AW.out.mono ?_
  rintro e w1 ⟨rfl, hb1⟩
  have B1 := Lib.hid hb1
  clear hb1
  go_wp2_with fail
  refine (LX.out w1 B1.out).mono ?_
  rintro e w2 ⟨rfl, hb2⟩
  have B2 := Lib.hid (B1.out.trans (hb2.mono B1.out.size))
  clear hb2
  go_wp2_with fail
  refine (CM.out w2 B2.out).mono ?_
  rintro e w3 ⟨rfl, hb3⟩
  have B3 := Lib.hid (B2.out.trans (hb3.mono B2.out.size))
  clear hb3
  go_wp2_with fail
  go_ret
  exact ⟨rfl, B3.out⟩

set_option maxRecDepth 100000 in
set_option maxHeartbeats 4000000 in
theorem run_ok (s : ByteArray) (hs : s.size ≤ 1048576) (l : List Tk) (xs : List (Nat × Nat)) (hl : l.length ≤ 131072) (hxl : xs.length ≤ 1048576) (hM : Mg s 0 l xs) (w : World) (AW : Hid (Calls Tryd.prog 5 #[] w fun e w' => e = .returned (.bool true) ∧ Below w.heap.size w w')) (LX : Hid (∀ w1, Below w.heap.size w w1 → Calls Tryd.prog 6 #[.string s] w1 fun r w' => ∃ o q, r = .returned (.tuple #[.slice o l.length q, .int .i64 0, .int .i64 0]) ∧ TokAt w' (.slice o l.length q) l ∧ l.length ≤ q ∧ Below w1.heap.size w1 w')) (CM : Hid (∀ w1, Below w.heap.size w w1 → Calls Tryd.prog 7 #[.string s] w1 fun r w' => ∃ o q, r = .returned (.tuple #[.slice o xs.length q, .int .i64 0, .int .i64 0]) ∧ RowP w' o xs ∧ xs.length ≤ q ∧ Below w1.heap.size w1 w')) (CK : Hid (∀ w1, Below w.heap.size w w1 → ∀ o q, l.length ≤ q → TokAt w1 (.slice o l.length q) l → Calls Tryd.prog 8 #[.slice o l.length q] w1 fun r w' => r = .returned (.tuple #[.int .i64 0, .int .i64 0]) ∧ Below w1.heap.size w1 w')) :
    Calls Tryd.prog 3 #[.string s] w fun e w' => e = .returned (.bool true) ∧ Below w.heap.size w w' := by
  have HM := Lib.hid hM
  clear hM
  go_enter Tryd.func3, Tryd.ntmps3
  go_wp2_with fail
  refine AW.out.mono ?_
  rintro e w1 ⟨rfl, hb1⟩
  have B1 := Lib.hid hb1
  clear hb1
  go_wp2_with fail
  refine (LX.out w1 B1.out).mono ?_
  rintro e w2 ⟨o, q0, rfl, ht2, hq0, hb2⟩
  have T2 := Lib.hid ht2
  have B2 := Lib.hid (B1.out.trans (hb2.mono B1.out.size))
  clear hb2 ht2
  go_wp2_with fail
  refine (CM.out w2 B2.out).mono ?_
  rintro e w3 ⟨o2, q2, rfl, hp3, hq2, hb3⟩
  have P3 := Lib.hid hp3
  have T3 := Lib.hid (T2.out.kept (Kq.of_below hb3))
  have B3 := Lib.hid (B2.out.trans (hb3.mono B2.out.size))
  clear hb3 hp3
  go_wp2_with fail
  refine (CK.out w3 B3.out o q0 hq0 T3.out).mono ?_
  rintro e w4 ⟨rfl, hb4⟩
  have HP := Lib.hid (P3.out.kept hb4)
  have HR := Lib.hid (tokat_row (T3.out.kept (Kq.of_below hb4)))
  have B4 := Lib.hid (B3.out.trans (hb4.mono B3.out.size))
  clear hb4
  go_wp2_with fail
  go_loopw [12, 13, 14] (fun x y z wr => ∃ a p q : Nat, p ≤ l.length ∧ q ≤ xs.length ∧ a ≤ s.size ∧ x = .int .i64 a ∧ y = .int .i64 p ∧ z = .int .i64 q ∧ Below w4.heap.size w4 wr ∧ Mg s a (l.drop p) (xs.drop q)) (fun _ y z _ => (l.length - (intOf y).toNat) + (xs.length - (intOf z).toNat))
  case atStart => exact ⟨0, 0, 0, Nat.zero_le _, Nat.zero_le _, Nat.zero_le _, rfl, rfl, rfl, Below.refl _ _, HM.out⟩
  case round =>
    obtain ⟨a, p, q, hp, hq, ha, rfl, rfl, rfl, hbw, hm⟩ := hrel
    generalize hl' : l.drop p = L at hm
    generalize hx' : xs.drop q = X at hm
    cases hm with
    | done _ k1 k2 =>
      have hp1 : l.length ≤ p := by
        have := congrArg List.length hl'
        simp at this; omega
      have hq1 : xs.length ≤ q := by
        have := congrArg List.length hx'
        simp at this; omega
      have e1 : ¬ (p : Int) < (l.length : Int) := by omega
      have e2 : ¬ (q : Int) < (xs.length : Int) := by omega
      have HCV := Lib.hid (fun w => covered_any s a s.size w (Nat.le_refl _) ha hs)
      rw [k2] at HCV
      have HBW := Lib.hid hbw
      clear hbw
      go_wp2_with fail
      refine (HCV.out _).mono ?_
      rintro e w6 ⟨rfl, rfl⟩
      go_wp2_with fail
      go_ret
      exact ⟨rfl, B4.out.trans (HBW.out.mono B4.out.size)⟩
    | tok _ t L' _ k1 k2 k3 k4 k5 kM =>
      have hp1 : p < l.length := by
        have := congrArg List.length hl'
        simp at this; omega
      have hL' : l.drop (p + 1) = L' := (List.cons.inj ((List.drop_eq_getElem_cons hp1).symm.trans hl')).2
      have hl' := hl'.symm
      cases X with
      | nil =>
        have hq1 : q = xs.length := by
          have := congrArg List.length hx'
          simp at this; omega
        obtain ⟨ga, ea, lt, c0, c1, c2, c3, c4, c5, c6⟩ := HR.out.kept hbw p (by simpa using hp1)
        have et : (l.map Tk.to)[p]'(by simpa using hp1) = t.to := by
          have := (List.cons.inj (hl'.trans (List.drop_eq_getElem_cons hp1))).1
          rw [List.getElem_map, this]
        rw [et] at c0 c1 c2 c3 c4 c5 c6
        subst ea
        obtain ⟨tk, tt, tn, tm, te, a1, b1⟩ := t
        simp only [Tk.to] at c0 c1 c2 c3 c4 c5 c6
        dsimp only at k1 k2 k3 k4 k5 kM
        have e1 : (p : Int) < (l.length : Int) := by omega
        have e1' : (0 : Int) ≤ (p : Int) := by omega
        have e2 : ((q : Int) == (xs.length : Int)) = true := by simp; omega
        have e2i : ¬ (q : Int) < (xs.length : Int) := by omega
        have e2e : (q : Int) = (xs.length : Int) := by omega
        have m1 : ¬ ((a1 : Int) < (a : Int)) := by omega
        have m2 : ¬ ((b1 : Int) ≤ (a1 : Int)) := by omega
        have m3 : ¬ ((s.size : Int) < (b1 : Int)) := by omega
        have m4 : IntKind.i64.wrap ((p : Int) + 1) = (p : Int) + 1 := wrap64 _ (by omega) (by omega)
        have HCV := Lib.hid (fun w => covered_any s a a1 w (by omega) (by omega) hs)
        rw [k4] at HCV
        have HKM := Lib.hid kM
        have HBW := Lib.hid hbw
        have hwz := hbw.size
        clear kM hbw k5 k4 k1 k2 k3
        go_wp2_with fail
        go_quiet (fail)
        go_wp2_with fail
        obtain ⟨wz, hW⟩ : ∃ wz, wz = (wr.alloc (.cells #[.int .i64 0, .int .i64 0] 33)).drewN nq := ⟨_, rfl⟩
        rw [← hW]
        have bz : Below wr.heap.size wr wz := by rw [hW]; exact below_drewN ((Below.refl _ _).alloc (Nat.le_refl _) _) _
        have y0 : wz.cell? ⟨wr.heap.size, 0, none⟩ = some (.int .i64 0) := by rw [hW]; clear hW; go_simp
        have y1 : wz.cell? ⟨wr.heap.size, 1, none⟩ = some (.int .i64 0) := by rw [hW]; clear hW; go_simp
        have f0 : wz.frozen? ⟨wr.heap.size, 0, none⟩ = false := by rw [hW]; clear hW; go_simp
        have f1 : wz.frozen? ⟨wr.heap.size, 1, none⟩ = false := by rw [hW]; clear hW; go_simp
        have yz : wr.heap.size < wz.heap.size := by rw [hW]; clear hW; simp
        have z5 : wz.cell? ⟨(ga.add (p * 7)).block, (ga.add (p * 7)).off + 5, none⟩ = some (.int .i64 a1) := carry bz c5
        have z6 : wz.cell? ⟨(ga.add (p * 7)).block, (ga.add (p * 7)).off + 6, none⟩ = some (.int .i64 b1) := carry bz c6
        have zlt := Nat.lt_of_lt_of_le lt bz.size
        have HBZ := Lib.hid (HBW.out.trans (bz.mono HBW.out.size))
        clear hW bz lt c0 c1 c2 c3 c4 c5 c6 et
        go_still_tail 11, (by kernel_rfl)
        change wpList _ _ _ _ _ wz.drew
        go_wp2_with fail
        refine (HCV.out _).mono ?_
        rintro e w6 ⟨rfl, rfl⟩
        go_wp2_with fail
        case roundEnd =>
          refine ⟨⟨b1, p + 1, q, by omega, by omega, by omega, by rfl, by first | rfl | (push_cast; rfl) | (congr 1; omega), by first | rfl | (push_cast; rfl) | (congr 1; omega), ?_, ?_⟩, by simp only [intOf]; omega⟩
          · repeat (first | with_reducible exact HBZ.out | with_reducible refine Below.drew ?_ | with_reducible refine Below.setCell ?_ (by first | omega | (simp; done) | (simp; omega)) _ | with_reducible refine Below.alloc ?_ (by first | omega | (simp; done) | (simp; omega)) _)
          · rw [hL', hx']; exact HKM.out
      | cons c X' =>
        have hq1 : q < xs.length := by
          have := congrArg List.length hx'
          simp at this; omega
        have hx' := hx'.symm
        obtain ⟨ga, ea, lt, c0, c1, c2, c3, c4, c5, c6⟩ := HR.out.kept hbw p (by simpa using hp1)
        have et : (l.map Tk.to)[p]'(by simpa using hp1) = t.to := by
          have := (List.cons.inj (hl'.trans (List.drop_eq_getElem_cons hp1))).1
          rw [List.getElem_map, this]
        rw [et] at c0 c1 c2 c3 c4 c5 c6
        subst ea
        obtain ⟨tk, tt, tn, tm, te, a1, b1⟩ := t
        simp only [Tk.to] at c0 c1 c2 c3 c4 c5 c6
        obtain ⟨gp, ep, plt, d0, d1⟩ := HP.out.kept hbw q hq1
        have ec : xs[q] = c := (List.cons.inj (hx'.trans (List.drop_eq_getElem_cons hq1))).1.symm
        rw [ec] at d0 d1
        subst ep
        obtain ⟨u1, v1⟩ := c
        dsimp only at d0 d1
        dsimp only at k1 k2 k3 k4 k5 kM
        have k7 : a1 < u1 := by have := k5 _ (List.mem_cons_self ..); dsimp only at this; omega
        have k7i : (a1 : Int) < (u1 : Int) := by omega
        have e1 : (p : Int) < (l.length : Int) := by omega
        have e1' : (0 : Int) ≤ (p : Int) := by omega
        have e2 : ((q : Int) == (xs.length : Int)) = false := by simp; omega
        have e2i : (q : Int) < (xs.length : Int) := by omega
        have e2' : (0 : Int) ≤ (q : Int) := by omega
        have e2n : ¬ (q : Int) = (xs.length : Int) := by omega
        have e2d : decide ((q : Int) = (xs.length : Int)) = false := by simpa using e2n
        have m1 : ¬ ((a1 : Int) < (a : Int)) := by omega
        have m2 : ¬ ((b1 : Int) ≤ (a1 : Int)) := by omega
        have m3 : ¬ ((s.size : Int) < (b1 : Int)) := by omega
        have m4 : IntKind.i64.wrap ((p : Int) + 1) = (p : Int) + 1 := wrap64 _ (by omega) (by omega)
        have HCV := Lib.hid (fun w => covered_any s a a1 w (by omega) (by omega) hs)
        rw [k4] at HCV
        have HKM := Lib.hid kM
        have HBW := Lib.hid hbw
        have hwz := hbw.size
        clear kM hbw k5 k4 k1 k2 k3
        go_wp2_with fail
        go_quiet (fail)
        go_wp2_with fail
        obtain ⟨wz, hW⟩ : ∃ wz, wz = (wr.alloc (.cells #[.int .i64 0, .int .i64 0] 33)).drewN nq := ⟨_, rfl⟩
        rw [← hW]
        have bz : Below wr.heap.size wr wz := by rw [hW]; exact below_drewN ((Below.refl _ _).alloc (Nat.le_refl _) _) _
        have y0 : wz.cell? ⟨wr.heap.size, 0, none⟩ = some (.int .i64 0) := by rw [hW]; clear hW; go_simp
        have y1 : wz.cell? ⟨wr.heap.size, 1, none⟩ = some (.int .i64 0) := by rw [hW]; clear hW; go_simp
        have f0 : wz.frozen? ⟨wr.heap.size, 0, none⟩ = false := by rw [hW]; clear hW; go_simp
        have f1 : wz.frozen? ⟨wr.heap.size, 1, none⟩ = false := by rw [hW]; clear hW; go_simp
        have yz : wr.heap.size < wz.heap.size := by rw [hW]; clear hW; simp
        have z5 : wz.cell? ⟨(ga.add (p * 7)).block, (ga.add (p * 7)).off + 5, none⟩ = some (.int .i64 a1) := carry bz c5
        have z6 : wz.cell? ⟨(ga.add (p * 7)).block, (ga.add (p * 7)).off + 6, none⟩ = some (.int .i64 b1) := carry bz c6
        have zlt := Nat.lt_of_lt_of_le lt bz.size
        have HBZ := Lib.hid (HBW.out.trans (bz.mono HBW.out.size))
        clear hW bz lt c0 c1 c2 c3 c4 c5 c6 et plt d0 d1 ec
        go_still_tail 11, (by kernel_rfl)
        change wpList _ _ _ _ _ wz.drew
        go_wp2_with fail
        refine (HCV.out _).mono ?_
        rintro e w6 ⟨rfl, rfl⟩
        go_wp2_with fail
        case roundEnd =>
          refine ⟨⟨b1, p + 1, q, by omega, by omega, by omega, by rfl, by first | rfl | (push_cast; rfl) | (congr 1; omega), by first | rfl | (push_cast; rfl) | (congr 1; omega), ?_, ?_⟩, by simp only [intOf]; omega⟩
          · repeat (first | with_reducible exact HBZ.out | with_reducible refine Below.drew ?_ | with_reducible refine Below.setCell ?_ (by first | omega | (simp; done) | (simp; omega)) _ | with_reducible refine Below.alloc ?_ (by first | omega | (simp; done) | (simp; omega)) _)
          · rw [hL', ← hx']; exact HKM.out
    | com _ c _ X' k1 k2 k3 k4 k5 kM =>
      have hq1 : q < xs.length := by
        have := congrArg List.length hx'
        simp at this; omega
      have hX' : xs.drop (q + 1) = X' := (List.cons.inj ((List.drop_eq_getElem_cons hq1).symm.trans hx')).2
      have hx' := hx'.symm
      cases L with
      | nil =>
        have hp1 : p = l.length := by
          have := congrArg List.length hl'
          simp at this; omega
        obtain ⟨gp, ep, plt, d0, d1⟩ := HP.out.kept hbw q hq1
        have ec : xs[q] = c := (List.cons.inj (hx'.trans (List.drop_eq_getElem_cons hq1))).1.symm
        rw [ec] at d0 d1
        subst ep
        obtain ⟨u1, v1⟩ := c
        dsimp only at d0 d1
        dsimp only at k1 k2 k3 k4 k5 kM
        have e1 : ¬ (p : Int) < (l.length : Int) := by omega
        have e1d : decide ((p : Int) < (l.length : Int)) = false := by simpa using e1
        have e1n : decide (p < l.length) = false := by simp; omega
        have e2 : ((q : Int) == (xs.length : Int)) = false := by simp; omega
        have e2i : (q : Int) < (xs.length : Int) := by omega
        have e2' : (0 : Int) ≤ (q : Int) := by omega
        have e2n : ¬ (q : Int) = (xs.length : Int) := by omega
        have e2d : decide ((q : Int) = (xs.length : Int)) = false := by simpa using e2n
        have m1 : ¬ ((u1 : Int) < (a : Int)) := by omega
        have m2 : ¬ ((v1 : Int) ≤ (u1 : Int)) := by omega
        have m3 : ¬ ((s.size : Int) < (v1 : Int)) := by omega
        have m4 : IntKind.i64.wrap ((q : Int) + 1) = (q : Int) + 1 := wrap64 _ (by omega) (by omega)
        have HCV := Lib.hid (fun w => covered_any s a u1 w (by omega) (by omega) hs)
        rw [k4] at HCV
        have HKM := Lib.hid kM
        have HBW := Lib.hid hbw
        have hwz := hbw.size
        clear kM hbw k5 k4 k1 k2 k3
        go_wp2_with fail
        go_quiet (fail)
        go_wp2_with fail
        obtain ⟨wz, hW⟩ : ∃ wz, wz = (wr.alloc (.cells #[.int .i64 0, .int .i64 0] 33)).drewN nq := ⟨_, rfl⟩
        rw [← hW]
        have bz : Below wr.heap.size wr wz := by rw [hW]; exact below_drewN ((Below.refl _ _).alloc (Nat.le_refl _) _) _
        have y0 : wz.cell? ⟨wr.heap.size, 0, none⟩ = some (.int .i64 0) := by rw [hW]; clear hW; go_simp
        have y1 : wz.cell? ⟨wr.heap.size, 1, none⟩ = some (.int .i64 0) := by rw [hW]; clear hW; go_simp
        have f0 : wz.frozen? ⟨wr.heap.size, 0, none⟩ = false := by rw [hW]; clear hW; go_simp
        have f1 : wz.frozen? ⟨wr.heap.size, 1, none⟩ = false := by rw [hW]; clear hW; go_simp
        have yz : wr.heap.size < wz.heap.size := by rw [hW]; clear hW; simp
        have z0 : wz.cell? (gp.add (q * 2)) = some (.int .i64 u1) := carry bz d0
        have z1 : wz.cell? ⟨(gp.add (q * 2)).block, (gp.add (q * 2)).off + 1, none⟩ = some (.int .i64 v1) := carry bz d1
        have zlt := Nat.lt_of_lt_of_le plt bz.size
        have HBZ := Lib.hid (HBW.out.trans (bz.mono HBW.out.size))
        clear hW bz plt d0 d1 ec
        go_wp2_with fail
        refine (HCV.out _).mono ?_
        rintro e w6 ⟨rfl, rfl⟩
        go_wp2_with fail
        case roundEnd =>
          refine ⟨⟨v1, p, q + 1, by omega, by omega, by omega, by rfl, by first | rfl | (push_cast; rfl) | (congr 1; omega), by first | rfl | (push_cast; rfl) | (congr 1; omega), ?_, ?_⟩, by simp only [intOf]; omega⟩
          · repeat (first | with_reducible exact HBZ.out | with_reducible refine Below.drew ?_ | with_reducible refine Below.setCell ?_ (by first | omega | (simp; done) | (simp; omega)) _ | with_reducible refine Below.alloc ?_ (by first | omega | (simp; done) | (simp; omega)) _)
          · rw [hX', hl']; exact HKM.out
      | cons t L' =>
        have hp1 : p < l.length := by
          have := congrArg List.length hl'
          simp at this; omega
        have hl' := hl'.symm
        obtain ⟨ga, ea, lt, c0, c1, c2, c3, c4, c5, c6⟩ := HR.out.kept hbw p (by simpa using hp1)
        have et : (l.map Tk.to)[p]'(by simpa using hp1) = t.to := by
          have := (List.cons.inj (hl'.trans (List.drop_eq_getElem_cons hp1))).1
          rw [List.getElem_map, this]
        rw [et] at c0 c1 c2 c3 c4 c5 c6
        subst ea
        obtain ⟨tk, tt, tn, tm, te, a1, b1⟩ := t
        simp only [Tk.to] at c0 c1 c2 c3 c4 c5 c6
        obtain ⟨gp, ep, plt, d0, d1⟩ := HP.out.kept hbw q hq1
        have ec : xs[q] = c := (List.cons.inj (hx'.trans (List.drop_eq_getElem_cons hq1))).1.symm
        rw [ec] at d0 d1
        subst ep
        obtain ⟨u1, v1⟩ := c
        dsimp only at d0 d1
        dsimp only at k1 k2 k3 k4 k5 kM
        have k7 : ¬ a1 < u1 := by have := k5 _ (List.mem_cons_self ..); dsimp only at this; omega
        have k7i : ¬ ((a1 : Int) < (u1 : Int)) := by omega
        have k7d : decide ((a1 : Int) < (u1 : Int)) = false := by simpa using k7i
        have k7n : decide (a1 < u1) = false := by simpa using k7
        have e1 : (p : Int) < (l.length : Int) := by omega
        have e1' : (0 : Int) ≤ (p : Int) := by omega
        have e2 : ((q : Int) == (xs.length : Int)) = false := by simp; omega
        have e2i : (q : Int) < (xs.length : Int) := by omega
        have e2' : (0 : Int) ≤ (q : Int) := by omega
        have e2n : ¬ (q : Int) = (xs.length : Int) := by omega
        have e2d : decide ((q : Int) = (xs.length : Int)) = false := by simpa using e2n
        have m1 : ¬ ((u1 : Int) < (a : Int)) := by omega
        have m2 : ¬ ((v1 : Int) ≤ (u1 : Int)) := by omega
        have m3 : ¬ ((s.size : Int) < (v1 : Int)) := by omega
        have m4 : IntKind.i64.wrap ((q : Int) + 1) = (q : Int) + 1 := wrap64 _ (by omega) (by omega)
        have HCV := Lib.hid (fun w => covered_any s a u1 w (by omega) (by omega) hs)
        rw [k4] at HCV
        have HKM := Lib.hid kM
        have HBW := Lib.hid hbw
        have hwz := hbw.size
        clear kM hbw k5 k4 k1 k2 k3
        go_wp2_with fail
        go_quiet (fail)
        go_wp2_with fail
        obtain ⟨wz, hW⟩ : ∃ wz, wz = (wr.alloc (.cells #[.int .i64 0, .int .i64 0] 33)).drewN nq := ⟨_, rfl⟩
        rw [← hW]
        have bz : Below wr.heap.size wr wz := by rw [hW]; exact below_drewN ((Below.refl _ _).alloc (Nat.le_refl _) _) _
        have y0 : wz.cell? ⟨wr.heap.size, 0, none⟩ = some (.int .i64 0) := by rw [hW]; clear hW; go_simp
        have y1 : wz.cell? ⟨wr.heap.size, 1, none⟩ = some (.int .i64 0) := by rw [hW]; clear hW; go_simp
        have f0 : wz.frozen? ⟨wr.heap.size, 0, none⟩ = false := by rw [hW]; clear hW; go_simp
        have f1 : wz.frozen? ⟨wr.heap.size, 1, none⟩ = false := by rw [hW]; clear hW; go_simp
        have yz : wr.heap.size < wz.heap.size := by rw [hW]; clear hW; simp
        have z0 : wz.cell? (gp.add (q * 2)) = some (.int .i64 u1) := carry bz d0
        have z1 : wz.cell? ⟨(gp.add (q * 2)).block, (gp.add (q * 2)).off + 1, none⟩ = some (.int .i64 v1) := carry bz d1
        have zlt := Nat.lt_of_lt_of_le plt bz.size
        have HBZ := Lib.hid (HBW.out.trans (bz.mono HBW.out.size))
        clear hW bz lt c0 c1 c2 c3 c4 c5 c6 et plt d0 d1 ec
        go_wp2_with fail
        refine (HCV.out _).mono ?_
        rintro e w6 ⟨rfl, rfl⟩
        go_wp2_with fail
        case roundEnd =>
          refine ⟨⟨v1, p, q + 1, by omega, by omega, by omega, by rfl, by first | rfl | (push_cast; rfl) | (congr 1; omega), by first | rfl | (push_cast; rfl) | (congr 1; omega), ?_, ?_⟩, by simp only [intOf]; omega⟩
          · repeat (first | with_reducible exact HBZ.out | with_reducible refine Below.drew ?_ | with_reducible refine Below.setCell ?_ (by first | omega | (simp; done) | (simp; omega)) _ | with_reducible refine Below.alloc ?_ (by first | omega | (simp; done) | (simp; omega)) _)
          · rw [hX', ← hl']; exact HKM.out

theorem run (a0 : ByteArray) (w : World) (w0 : a0.size ≤ maxLen) (hb0 : a0.size < 4611686018427387904) (ht1 : TabAt w w.heap.size 0 wordL) (ht2 : TabAt w w.heap.size 1 signL) (hP : re.P10 w) :
    Calls Tryd.prog 3 #[.string a0] w fun e w' => e = .returned (.bool true) ∧ Below w.heap.size w w' := by
  have AW := Lib.hid (awake_any w ht1 ht2)
  by_cases hs : a0.size ≤ 1048576
  · cases hr : scan (numN a0) a0 (a0.size + 1) 0 [] with
    | error x =>
      obtain ⟨e, i⟩ := x
      exact run_err a0 e i (by simpa using scan_err (fun a e h => numN_err h) _ _ _ _ _ hr) w AW (Lib.hid (lex_bad hs ht1 ht2 hP hr)) (Lib.hid (coms_bad hs ht1 ht2 hP hr))
    | ok l =>
      have N := numN_good a0
      have hl := tk_len N hr
      obtain ⟨xs, x1, x2, x3, x4, x5, x6, x7⟩ := coms_ok hs ht1 ht2 hP hr
      have hM := mg_scan N hr (fun u hu => (tk_bd hr u hu).1) x3 x1
      have hE := end_scan N (fun a e t h => numN_kind a e t h) hr
      have hG := scan_good (P := numP) N (fun a e t hd h => numN_P hd h) _ _ _ _ (Nat.zero_le _) (fun t ht => by cases ht) hr
      exact run_ok a0 hs l xs hl (by omega) hM w AW (Lib.hid (lex_tok hs ht1 ht2 hP hr)) (Lib.hid (coms_tok x6)) (Lib.hid fun w1 hb o q hq hT =>
        check_any l w1 hl hq hT (fun t ht w2 hb2 => valid_good ht1 ht2 (hG t ht) w2 (hb.trans (hb2.mono hb.size))) hE)
  · exact run_err a0 2 0 (by decide) w AW (Lib.hid fun w1 _ => lex_long (by omega)) (Lib.hid fun w1 _ => coms_err (by decide) (lex_long (by omega)))

end Go.Proofs.YtnmifeiokhpcfaaDoor.lexOrder
