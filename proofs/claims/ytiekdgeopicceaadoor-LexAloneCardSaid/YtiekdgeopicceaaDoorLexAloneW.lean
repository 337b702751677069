/-
  LexAlone: the ways.
-/
import Derived.Test.YtiekdgeopicceaaDoorLexShift
import Derived.Test.YtiekdgeopicceaaDoorLexEmb
import Derived.Test.YtiekdgeopicceaaDoorLex17
import Derived.WalkKit

namespace Go.Proofs.YtiekdgeopicceaaDoor.lexAlone
open Go.RowKit
set_option linter.unusedVariables false

set_option maxRecDepth 100000 in
set_option maxHeartbeats 1600000 in
theorem run_err (s : ByteArray) (er at_ k : Int) (he : (er != 0) = true) (w : World) (AW : Hid (Calls Tryd.prog 8 #[] w fun e w' => e = .returned (.bool true) ∧ Below w.heap.size w w')) (LX : Hid (∀ w1, Below w.heap.size w w1 → Calls Tryd.prog 9 #[.string s] w1 fun r w' => r = .returned (.tuple #[.slice none 0 0, .int .i64 er, .int .i64 at_]) ∧ Below w1.heap.size w1 w')) :
    Calls Tryd.prog 3 #[.string s, .int .i64 k] w fun e w' => e = .returned (.bool true) ∧ Below w.heap.size w w' := by
  go_enter Tryd.func3, Tryd.ntmps3
  go_wp2_with fail
  refine AW.out.mono ?_
  rintro e w1 ⟨rfl, hb1⟩
  have B1 := Lib.hid hb1
  clear hb1
  go_wp2_with fail
  refine (LX.out w1 B1.out).mono ?_
  rintro e w2 ⟨rfl, hb2⟩
  have B2 := Lib.hid (B1.out.trans (hb2.mono B1.out.size))
  clear hb2
  go_wp2_with fail
  go_ret
  exact ⟨rfl, B2.out⟩

set_option maxRecDepth 100000 in
set_option maxHeartbeats 1600000 in
theorem run_neg (s : ByteArray) (k : Int) (l : List To) (hl : l.length ≤ 131072) (hk : k < 0) (w : World) (AW : Hid (Calls Tryd.prog 8 #[] w fun e w' => e = .returned (.bool true) ∧ Below w.heap.size w w')) (LX : Hid (∀ w1, Below w.heap.size w w1 → Calls Tryd.prog 9 #[.string s] w1 fun r w' => ∃ o q, r = .returned (.tuple #[.slice o l.length q, .int .i64 0, .int .i64 0]) ∧ Row w' o l ∧ (o = none → q = 0) ∧ l.length ≤ q ∧ Below w1.heap.size w1 w')) :
    Calls Tryd.prog 3 #[.string s, .int .i64 k] w fun e w' => e = .returned (.bool true) ∧ Below w.heap.size w w' := by
  go_enter Tryd.func3, Tryd.ntmps3
  go_wp2_with fail
  refine AW.out.mono ?_
  rintro e w1 ⟨rfl, hb1⟩
  have B1 := Lib.hid hb1
  clear hb1
  go_wp2_with fail
  refine (LX.out w1 B1.out).mono ?_
  rintro e w2 ⟨o, q, rfl, hrow2, hnone2, hcap2, hb2⟩
  have RW2 := Lib.hid hrow2
  have NN2 := Lib.hid (And.intro hnone2 hcap2)
  have hb2' := Lib.hid hb2
  have B2 := Lib.hid (B1.out.trans (hb2.mono B1.out.size))
  clear hb2 hrow2 hnone2 hcap2
  go_wp2_with fail
  go_ret
  exact ⟨rfl, B2.out⟩

set_option maxRecDepth 100000 in
set_option maxHeartbeats 1600000 in
theorem run_big (s : ByteArray) (k : Int) (l : List To) (hl : l.length ≤ 131072) (hk : ¬ k < 0) (hk2 : (l.length : Int) ≤ k) (w : World) (AW : Hid (Calls Tryd.prog 8 #[] w fun e w' => e = .returned (.bool true) ∧ Below w.heap.size w w')) (LX : Hid (∀ w1, Below w.heap.size w w1 → Calls Tryd.prog 9 #[.string s] w1 fun r w' => ∃ o q, r = .returned (.tuple #[.slice o l.length q, .int .i64 0, .int .i64 0]) ∧ Row w' o l ∧ (o = none → q = 0) ∧ l.length ≤ q ∧ Below w1.heap.size w1 w')) :
    Calls Tryd.prog 3 #[.string s, .int .i64 k] w fun e w' => e = .returned (.bool true) ∧ Below w.heap.size w w' := by
  go_enter Tryd.func3, Tryd.ntmps3
  go_wp2_with fail
  refine AW.out.mono ?_
  rintro e w1 ⟨rfl, hb1⟩
  have B1 := Lib.hid hb1
  clear hb1
  go_wp2_with fail
  refine (LX.out w1 B1.out).mono ?_
  rintro e w2 ⟨o, q, rfl, hrow2, hnone2, hcap2, hb2⟩
  have RW2 := Lib.hid hrow2
  have NN2 := Lib.hid (And.intro hnone2 hcap2)
  have hb2' := Lib.hid hb2
  have B2 := Lib.hid (B1.out.trans (hb2.mono B1.out.size))
  clear hb2 hrow2 hnone2 hcap2
  go_wp2_with fail
  go_ret
  exact ⟨rfl, B2.out⟩

set_option maxRecDepth 100000 in
set_option maxHeartbeats 1600000 in
theorem run_in (s : ByteArray) (k : Nat) (l : List To) (hl : l.length ≤ 131072) (hk : k < l.length) (a b : Nat) (tk tn tm te uk un um ue : Int) (tt ut : ByteArray) (hT : l[k] = (⟨tk, tt, tn, tm, te, (a : Int), (b : Int)⟩ : To)) (hab : a ≤ b) (hbs : b ≤ s.size) (hsz : s.size ≤ 1048576) (hS : sameT [(⟨uk, ut, un, um, ue, 0, (b : Int) - a⟩ : To)] [(⟨tk, tt, tn, tm, te, (a : Int), (b : Int)⟩ : To)] = true) (w : World) (AW : Hid (Calls Tryd.prog 8 #[] w fun e w' => e = .returned (.bool true) ∧ Below w.heap.size w w')) (LX : Hid (∀ w1, Below w.heap.size w w1 → Calls Tryd.prog 9 #[.string s] w1 fun r w' => ∃ o q, r = .returned (.tuple #[.slice o l.length q, .int .i64 0, .int .i64 0]) ∧ Row w' o l ∧ (o = none → q = 0) ∧ l.length ≤ q ∧ Below w1.heap.size w1 w')) (LY : Hid (∀ w1, Below w.heap.size w w1 → Calls Tryd.prog 9 #[.string (s.extract a b)] w1 fun r w' => ∃ o q, r = .returned (.tuple #[.slice o [(⟨uk, ut, un, um, ue, 0, (b : Int) - a⟩ : To)].length q, .int .i64 0, .int .i64 0]) ∧ Row w' o [(⟨uk, ut, un, um, ue, 0, (b : Int) - a⟩ : To)] ∧ (o = none → q = 0) ∧ [(⟨uk, ut, un, um, ue, 0, (b : Int) - a⟩ : To)].length ≤ q ∧ Below w1.heap.size w1 w')) :
    Calls Tryd.prog 3 #[.string s, .int .i64 k] w fun e w' => e = .returned (.bool true) ∧ Below w.heap.size w w' := by
  have hki : ¬ ((l.length : Int) ≤ (k : Int)) := by omega
  have hk0 : ¬ ((k : Int) < 0) := by omega
  have hki' : (k : Int) < (l.length : Int) := by omega
  have hk0' : (0 : Int) ≤ (k : Int) := by omega
  have g1 : ¬ ((a : Int) < 0) := by omega
  have g2 : ¬ ((b : Int) < (a : Int)) := by omega
  have g3 : ¬ ((s.size : Int) < (b : Int)) := by omega
  have g4 : (a : Int) ≤ (b : Int) := by omega
  have g5 : (b : Int) ≤ (s.size : Int) := by omega
  have g6 : (0 : Int) ≤ (a : Int) := by omega
  have g7 : IntKind.i64.wrap ((b : Int) - (a : Int)) = (b : Int) - a := wrap64 _ (by omega) (by omega)
  have g8 : (((b : Int) - a) != ((b : Int) - a)) = false := by simp
  have HSS := Lib.hid hS
  clear hS
  go_enter Tryd.func3, Tryd.ntmps3
  go_wp2_with fail
  refine AW.out.mono ?_
  rintro e w1 ⟨rfl, hb1⟩
  have B1 := Lib.hid hb1
  clear hb1
  go_wp2_with fail
  refine (LX.out w1 B1.out).mono ?_
  rintro e w2 ⟨o, q, rfl, hrow2, hnone2, hcap2, hb2⟩
  have RW2 := Lib.hid hrow2
  have NN2 := Lib.hid (And.intro hnone2 hcap2)
  have hb2' := Lib.hid hb2
  have B2 := Lib.hid (B1.out.trans (hb2.mono B1.out.size))
  clear hb2 hrow2 hnone2 hcap2
  obtain ⟨g, rfl, ha⟩ := RW2.out k hk
  obtain ⟨lt, c0, c1, c2, c3, c4, c5, c6⟩ := ha
  rw [hT] at c0 c1 c2 c3 c4 c5 c6
  dsimp only at c0 c1 c2 c3 c4 c5 c6
  go_wp2_with fail
  refine (LY.out _ (B2.out.alloc B2.out.size _)).mono ?_
  rintro e w3 ⟨o2, q2, rfl, hrow3, hnone3, hcap3, hb3⟩
  obtain ⟨gu, rfl, hu⟩ := hrow3 0 (by simp)
  have HR3 := Lib.hid hrow3
  obtain ⟨ult, u0, u1, u2, u3, u4, u5, u6⟩ := hu
  dsimp only [List.getElem_cons_zero] at u0 u1 u2 u3 u4 u5 u6
  have v5 : w3.cell? ⟨gu.block, gu.off + 5, none⟩ = some (.int .i64 0) := u5
  have v6 : w3.cell? ⟨gu.block, gu.off + 6, none⟩ = some (.int .i64 ((b : Int) - a)) := u6
  clear u0 u1 u2 u3 u4 u5 u6
  have t0 : w3.cell? ⟨w2.heap.size, 0, none⟩ = some (.int .i64 tk) := carry hb3 (by go_simp)
  have t1 : w3.cell? ⟨w2.heap.size, 1, none⟩ = some (.string tt) := carry hb3 (by go_simp)
  have t2 : w3.cell? ⟨w2.heap.size, 2, none⟩ = some (.int .i64 tn) := carry hb3 (by go_simp)
  have t3 : w3.cell? ⟨w2.heap.size, 3, none⟩ = some (.int .i64 tm) := carry hb3 (by go_simp)
  have t4 : w3.cell? ⟨w2.heap.size, 4, none⟩ = some (.int .i64 te) := carry hb3 (by go_simp)
  have t5 : w3.cell? ⟨w2.heap.size, 5, none⟩ = some (.int .i64 a) := carry hb3 (by go_simp)
  have t6 : w3.cell? ⟨w2.heap.size, 6, none⟩ = some (.int .i64 b) := carry hb3 (by go_simp)
  have tz : w2.heap.size < w3.heap.size := by have := hb3.size; simp at this; omega
  have B3 := Lib.hid ((B2.out.alloc B2.out.size _).trans (hb3.mono (by have := B2.out.size; simp; omega)))
  clear hb3 hrow3 c0 c1 c2 c3 c4 c5 c6 lt
  go_wp2_with fail
  go_quiet (fail)
  go_wp2_with fail
  have BX := Lib.hid (show ∀ o, Below w3.heap.size w3 ((w3.drewN nq).alloc o) from fun o => (below_drewN (Below.refl _ _) _).alloc (Nat.le_refl _) _)
  refine (same_any (some gu) (some ⟨w3.heap.size, 0, none⟩) q2 1 [(⟨uk, ut, un, um, ue, 0, (b : Int) - a⟩ : To)] [(⟨tk, tt, tn, tm, te, (a : Int), (b : Int)⟩ : To)] _ (HR3.out.kept (BX.out _)) (row_one (heap_alloc_new _ _)) (by unfold maxLen; simp)).mono ?_
  rintro e w5 ⟨rfl, hb5⟩
  have B5 := Lib.hid ((B3.out.trans ((BX.out _).mono B3.out.size)).trans (hb5.mono (by have := B3.out.size; simp; omega)))
  clear hb5
  rw [HSS.out]
  go_wp2_with fail
  go_ret
  exact ⟨rfl, B5.out⟩

theorem run (a0 : ByteArray) (k : Int) (w : World) (w0 : a0.size ≤ maxLen) (wk : (Lit.int .i64 k).wf = true) (hb : a0.size < 4611686018427387904) (ht1 : TabAt w w.heap.size 0 wordL) (ht2 : TabAt w w.heap.size 1 signL) (hP : re.P10 w) :
    Calls Tryd.prog 3 #[.string a0, .int .i64 k] w fun e w' => e = .returned (.bool true) ∧ Below w.heap.size w w' := by
  have AW := Lib.hid (awake_any w ht1 ht2)
  by_cases hs : a0.size ≤ 1048576
  · cases hr : scan (numN a0) a0 (a0.size + 1) 0 [] with
    | ok l =>
      have hlen := tk_len (numN_good a0) hr
      have hl : (l.map Tk.to).length = l.length := List.length_map _
      by_cases h0 : k < 0
      · exact run_neg a0 k (l.map Tk.to) (by omega) h0 w AW (Lib.hid (lex_row hs ht1 ht2 hP hr))
      · by_cases h1 : ((l.map Tk.to).length : Int) ≤ k
        · exact run_big a0 k (l.map Tk.to) (by omega) h0 h1 w AW (Lib.hid (lex_row hs ht1 ht2 hP hr))
        · obtain ⟨n, rfl⟩ := Int.eq_ofNat_of_zero_le (show 0 ≤ k by omega)
          have hn : n < l.length := by omega
          obtain ⟨a1, a2, a3⟩ := alone_lex hr (List.getElem?_eq_getElem hn)
          generalize hu : l[n] = u at *
          have hT : (l.map Tk.to)[n]'(by omega) = u.to := by rw [List.getElem_map, hu]
          have hsz : (a0.extract u.ofs u.en).size ≤ 1048576 := by rw [ByteArray.size_extract]; omega
          have LY := lex_row hsz ht1 ht2 hP a3
          have e1 : ([u.mv u.ofs 0] : List Tk).map Tk.to = [⟨u.kind, u.text, u.n, u.man, u.ex, 0, (u.en : Int) - u.ofs⟩] := by
            simp only [List.map_cons, List.map_nil, Tk.to, Tk.mv]
            rw [show u.ofs - u.ofs + 0 = 0 from by omega, show ((u.en - u.ofs + 0 : Nat) : Int) = (u.en : Int) - u.ofs from by omega]
            rfl
          rw [e1] at LY
          have hS : sameT [(⟨u.kind, u.text, u.n, u.man, u.ex, 0, (u.en : Int) - u.ofs⟩ : To)] [u.to] = true := by simp [sameT, alikeT, Tk.to]
          exact run_in a0 n (l.map Tk.to) (by omega) (by omega) u.ofs u.en u.kind u.n u.man u.ex u.kind u.n u.man u.ex u.text u.text hT (by omega) a2 hs hS w AW (Lib.hid (lex_row hs ht1 ht2 hP hr)) (Lib.hid LY)
    | error x =>
      obtain ⟨e, i⟩ := x
      have hne := scan_err (fun a e h => numN_err h) _ _ _ _ _ hr
      exact run_err a0 e i k (by simpa using hne) w AW (Lib.hid (lex_bad hs ht1 ht2 hP hr))
  · exact run_err a0 2 0 k (by decide) w AW (Lib.hid fun w1 _ => lex_long (by omega))

end Go.Proofs.YtiekdgeopicceaaDoor.lexAlone
