/-
  LexBlanks: the ways.
-/
import Derived.Test.YtiekdgeopicceaaDoorLexShift
import Derived.Test.YtiekdgeopicceaaDoorLexEmb
import Derived.Test.YtiekdgeopicceaaDoorLex17
import Derived.WalkKit
import Derived.StillTailTactics
import Derived.Deep.RegionHeld3

namespace Go.Proofs.YtiekdgeopicceaaDoor.lexBlanks
open Go.RowKit
set_option linter.unusedVariables false

theorem own_base {w : World} {b b' : Nat} {e : TypeId} {k : Nat} {v : Value} {n : Nat} {xs : List Value} (h : w.ownsRow b e k v n xs) (hb : b' ≤ b) : w.ownsRow b' e k v n xs := by
  refine ⟨h.1, ?_⟩
  rcases h.2 with h2 | ⟨g, cap, cur, h1, h3, h4⟩
  · exact .inl h2
  · exact .inr ⟨g, cap, cur, h1, Nat.le_trans hb h3, h4⟩

set_option maxRecDepth 100000 in
set_option maxHeartbeats 1600000 in
theorem run_err (s : ByteArray) (er at_ k : Int) (he : (er != 0) = true) (w : World) (AW : Hid (Calls Tryd.prog 8 #[] w fun e w' => e = .returned (.bool true) ∧ Below w.heap.size w w')) (LX : Hid (∀ w1, Below w.heap.size w w1 → Calls Tryd.prog 9 #[.string s] w1 fun r w' => r = .returned (.tuple #[.slice none 0 0, .int .i64 er, .int .i64 at_]) ∧ Below w1.heap.size w1 w')) :
    Calls Tryd.prog 5 #[.string s, .int .i64 k] w fun e w' => e = .returned (.bool true) ∧ Below w.heap.size w w' := by
  go_enter Tryd.func5, Tryd.ntmps5
  go_wp2_with fail
  refine AW.out.mono ?_
  rintro e w1 ⟨rfl, hb1⟩
  have B1 := Lib.hid hb1
  clear hb1
  go_wp2_with fail
  refine (LX.out w1 B1.out).mono ?_
  rintro e w2 ⟨rfl, hb2⟩
  have B2 := Lib.hid (B1.out.trans (hb2.mono B1.out.size))
  clear hb2
  go_wp2_with fail
  go_ret
  exact ⟨rfl, B2.out⟩

set_option maxRecDepth 100000 in
set_option maxHeartbeats 1600000 in
theorem run_neg (s : ByteArray) (k : Int) (l : List To) (hl : l.length ≤ 131072) (hk : k < 0) (w : World) (AW : Hid (Calls Tryd.prog 8 #[] w fun e w' => e = .returned (.bool true) ∧ Below w.heap.size w w')) (LX : Hid (∀ w1, Below w.heap.size w w1 → Calls Tryd.prog 9 #[.string s] w1 fun r w' => ∃ o q, r = .returned (.tuple #[.slice o l.length q, .int .i64 0, .int .i64 0]) ∧ Row w' o l ∧ (o = none → q = 0) ∧ l.length ≤ q ∧ Below w1.heap.size w1 w')) :
    Calls Tryd.prog 5 #[.string s, .int .i64 k] w fun e w' => e = .returned (.bool true) ∧ Below w.heap.size w w' := by
  go_enter Tryd.func5, Tryd.ntmps5
  go_wp2_with fail
  refine AW.out.mono ?_
  rintro e w1 ⟨rfl, hb1⟩
  have B1 := Lib.hid hb1
  clear hb1
  go_wp2_with fail
  refine (LX.out w1 B1.out).mono ?_
  rintro e w2 ⟨o, q, rfl, hrow2, hnone2, hcap2, hb2⟩
  have RW2 := Lib.hid hrow2
  have NN2 := Lib.hid (And.intro hnone2 hcap2)
  have hb2' := Lib.hid hb2
  have B2 := Lib.hid (B1.out.trans (hb2.mono B1.out.size))
  clear hb2 hrow2 hnone2 hcap2
  go_wp2_with fail
  go_ret
  exact ⟨rfl, B2.out⟩

set_option maxRecDepth 100000 in
set_option maxHeartbeats 1600000 in
theorem run_big (s : ByteArray) (k : Int) (l : List To) (hl : l.length ≤ 131072) (hk : ¬ k < 0) (hk2 : (l.length : Int) ≤ k) (w : World) (AW : Hid (Calls Tryd.prog 8 #[] w fun e w' => e = .returned (.bool true) ∧ Below w.heap.size w w')) (LX : Hid (∀ w1, Below w.heap.size w w1 → Calls Tryd.prog 9 #[.string s] w1 fun r w' => ∃ o q, r = .returned (.tuple #[.slice o l.length q, .int .i64 0, .int .i64 0]) ∧ Row w' o l ∧ (o = none → q = 0) ∧ l.length ≤ q ∧ Below w1.heap.size w1 w')) :
    Calls Tryd.prog 5 #[.string s, .int .i64 k] w fun e w' => e = .returned (.bool true) ∧ Below w.heap.size w w' := by
  go_enter Tryd.func5, Tryd.ntmps5
  go_wp2_with fail
  refine AW.out.mono ?_
  rintro e w1 ⟨rfl, hb1⟩
  have B1 := Lib.hid hb1
  clear hb1
  go_wp2_with fail
  refine (LX.out w1 B1.out).mono ?_
  rintro e w2 ⟨o, q, rfl, hrow2, hnone2, hcap2, hb2⟩
  have RW2 := Lib.hid hrow2
  have NN2 := Lib.hid (And.intro hnone2 hcap2)
  have hb2' := Lib.hid hb2
  have B2 := Lib.hid (B1.out.trans (hb2.mono B1.out.size))
  clear hb2 hrow2 hnone2 hcap2
  go_wp2_with fail
  go_ret
  exact ⟨rfl, B2.out⟩

set_option maxRecDepth 100000 in
set_option maxHeartbeats 1600000 in
theorem run_long (s : ByteArray) (k : Int) (l : List To) (hl : l.length ≤ 131072) (hk : ¬ k < 0) (hk2 : ¬ (l.length : Int) ≤ k) (hs : (1048576 : Int) ≤ s.size) (w : World) (AW : Hid (Calls Tryd.prog 8 #[] w fun e w' => e = .returned (.bool true) ∧ Below w.heap.size w w')) (LX : Hid (∀ w1, Below w.heap.size w w1 → Calls Tryd.prog 9 #[.string s] w1 fun r w' => ∃ o q, r = .returned (.tuple #[.slice o l.length q, .int .i64 0, .int .i64 0]) ∧ Row w' o l ∧ (o = none → q = 0) ∧ l.length ≤ q ∧ Below w1.heap.size w1 w')) :
    Calls Tryd.prog 5 #[.string s, .int .i64 k] w fun e w' => e = .returned (.bool true) ∧ Below w.heap.size w w' := by
  go_enter Tryd.func5, Tryd.ntmps5
  go_wp2_with fail
  refine AW.out.mono ?_
  rintro e w1 ⟨rfl, hb1⟩
  have B1 := Lib.hid hb1
  clear hb1
  go_wp2_with fail
  refine (LX.out w1 B1.out).mono ?_
  rintro e w2 ⟨o, q, rfl, hrow2, hnone2, hcap2, hb2⟩
  have RW2 := Lib.hid hrow2
  have NN2 := Lib.hid (And.intro hnone2 hcap2)
  have hb2' := Lib.hid hb2
  have B2 := Lib.hid (B1.out.trans (hb2.mono B1.out.size))
  clear hb2 hrow2 hnone2 hcap2
  go_wp2_with fail
  go_ret
  exact ⟨rfl, B2.out⟩

set_option maxRecDepth 100000 in
set_option maxHeartbeats 1600000 in
theorem run_in (s : ByteArray) (k : Nat) (l : List To) (hl : l.length ≤ 131072) (hk : k < l.length) (a : Nat) (hT : l[k].ofs = (a : Int)) (ha : a ≤ s.size) (hs : s.size ≤ 1048576) (hs2 : ¬ (1048576 : Int) ≤ s.size) (BL : Hid (∀ t ∈ l, 0 ≤ t.ofs ∧ t.ofs ≤ 4194304 ∧ 0 ≤ t.en ∧ t.en ≤ 4194304)) (x t : ByteArray) (s1 : ∀ w, (Op.stringOp .add (s.extract 0 a) ⟨#[32]⟩).run Tryd.prog w = .ok (.string x) w) (s2 : ∀ w, (Op.stringOp .add x (s.extract a s.size)).run Tryd.prog w = .ok (.string t) w) (w : World) (AW : Hid (Calls Tryd.prog 8 #[] w fun e w' => e = .returned (.bool true) ∧ Below w.heap.size w w')) (LX : Hid (∀ w1, Below w.heap.size w w1 → Calls Tryd.prog 9 #[.string s] w1 fun r w' => ∃ o q, r = .returned (.tuple #[.slice o l.length q, .int .i64 0, .int .i64 0]) ∧ Row w' o l ∧ (o = none → q = 0) ∧ l.length ≤ q ∧ Below w1.heap.size w1 w')) (LS : Hid (∀ w1, Below w.heap.size w w1 → Calls Tryd.prog 9 #[.string t] w1 fun r w' => ∃ o q, r = .returned (.tuple #[.slice o (k + (l.length - k)) q, .int .i64 0, .int .i64 0]) ∧ Row w' o ((l.take k).map (To.sh 0) ++ (l.drop k).map (To.sh 1)) ∧ (o = none → q = 0) ∧ (k + (l.length - k)) ≤ q ∧ Below w1.heap.size w1 w')) :
    Calls Tryd.prog 5 #[.string s, .int .i64 (k : Int)] w fun e w' => e = .returned (.bool true) ∧ Below w.heap.size w w' := by
  obtain ⟨i0, hi0, hz0, hz1, hz2⟩ := info_parts info47
  have f1 : decide ((1048576 : Int) ≤ s.size) = false := by simpa using hs2
  clear hs2
  have hki : ¬ ((l.length : Int) ≤ (k : Int)) := by omega
  have hk0 : ¬ ((k : Int) < 0) := by omega
  have hki' : (k : Int) < (l.length : Int) := by omega
  have hki2 : (k : Int) ≤ (l.length : Int) := by omega
  have hk0' : (0 : Int) ≤ (k : Int) := by omega
  have g1 : ¬ ((a : Int) < 0) := by omega
  have g3 : ¬ ((s.size : Int) < (a : Int)) := by omega
  have g5 : (a : Int) ≤ (s.size : Int) := by omega
  have g6 : (0 : Int) ≤ (a : Int) := by omega
  have e1 : (l.length : Int) - k = ((l.length - k : Nat) : Int) := by omega
  go_enter Tryd.func5, Tryd.ntmps5
  go_wp2_with fail
  refine AW.out.mono ?_
  rintro e w1 ⟨rfl, hb1⟩
  have B1 := Lib.hid hb1
  clear hb1
  go_wp2_with fail
  refine (LX.out w1 B1.out).mono ?_
  rintro e w2 ⟨o, q, rfl, hrow2, hnone2, hcap2, hb2⟩
  have RW2 := Lib.hid hrow2
  have NN2 := Lib.hid (And.intro hnone2 hcap2)
  have hb2' := Lib.hid hb2
  have B2 := Lib.hid (B1.out.trans (hb2.mono B1.out.size))
  clear hb2 hrow2 hnone2 hcap2
  obtain ⟨g, rfl, ha⟩ := RW2.out k hk
  obtain ⟨lt, c0, c1, c2, c3, c4, c5, c6⟩ := ha
  rw [hT] at c5
  clear c0 c1 c2 c3 c4 c6
  go_wp2_with fail
  have BW := Lib.hid (Below.refl w2.heap.size w2)
  have hB := B2.out
  have hW := BW.out
  go_region_held3 (fun wx => Below w.heap.size w wx ∧ Below w2.heap.size w2 wx) (first | (go_keep; done) | ((try go_split_ands); (repeat' apply And.intro) <;> first | with_reducible assumption | (with_reducible exact Below.drew (by with_reducible assumption)) | (refine (fun h => Below.trans h (hbq.mono (Below.size h))) ?_; first | with_reducible assumption | (with_reducible exact Below.drew (by with_reducible assumption)))))
  (first
    | (go_at_call 9; ((with_reducible refine (LS.out _ (by first | with_reducible assumption | exact Below.drew (by with_reducible assumption) | exact (by assumption : Below w.heap.size w _ ∧ Below w2.heap.size w2 _).1 | exact Below.drew (by assumption : Below w.heap.size w _ ∧ Below w2.heap.size w2 _).1)).mono ?_); rintro r wq ⟨o4, q4, rfl, hrow4, hnone4, hcap4, hbq⟩)))
  clear hB hW
  rename Below w.heap.size w _ ∧ Below w2.heap.size w2 _ => hS
  obtain ⟨hB, hW⟩ := hS
  obtain ⟨w3, rfl⟩ : ∃ x, x = wq := ⟨_, rfl⟩
  have RS := Lib.hid hrow4
  have R3 := Lib.hid (RW2.out.kept hW)
  have B3 := Lib.hid hB
  clear hW hB
  have hB := B3.out
  have hW := Below.refl w3.heap.size w3
  have hq1 : ¬ q = k := by have := NN2.out.2; omega
  have hq2 : l.length ≤ q := NN2.out.2
  have hq3 : (k : Int) ≤ (q : Int) := by omega
  have hq4 : (q : Int) - k = ((q - k : Nat) : Int) := by omega
  have SH1 := Lib.hid (show ∀ W, Below w3.heap.size w3 W → Calls Tryd.prog 12 #[.slice (some g) k q, .int .i64 0] W fun r w' => ∃ v, r = .returned v ∧ Below W.heap.size W w' ∧ w'.ownsRow w3.heap.size 30 7 v k (cellsT ((l.take k).map (To.sh 0))) from fun W hW => by
    have h := shifted_any (some g) q (l.take k) 0 W ((R3.out.kept hW).take k) (by rw [List.length_take]; omega) (by omega) (by omega) (fun t ht => BL.out t (List.mem_of_mem_take ht))
    rw [List.length_take, Nat.min_eq_left (by omega)] at h
    exact h.mono fun r w' ⟨v, h1, h2, h3⟩ => ⟨v, h1, h2, own_base h3 hW.size⟩)
  have SH2 := Lib.hid (show ∀ W, Below w3.heap.size w3 W → Calls Tryd.prog 12 #[.slice (some (g.add (k * 7))) (l.length - k) (q - k), .int .i64 1] W fun r w' => ∃ v, r = .returned v ∧ Below W.heap.size W w' ∧ w'.ownsRow w3.heap.size 30 7 v (l.length - k) (cellsT ((l.drop k).map (To.sh 1))) from fun W hW => by
    have hc := (R3.out.kept hW).cut q k l.length (by omega) (by omega) (by omega)
    have e : rsl (some g) q k = some (g.add (k * 7)) := by unfold rsl; rw [if_neg hq1]; rfl
    rw [e, List.take_of_length_le (by rw [List.length_drop]; omega)] at hc
    have h := shifted_any (some (g.add (k * 7))) (q - k) (l.drop k) 1 W hc (by rw [List.length_drop]; omega) (by omega) (by omega) (fun t ht => BL.out t (List.mem_of_mem_drop ht))
    rw [List.length_drop] at h
    exact h.mono fun r w' ⟨v, h1, h2, h3⟩ => ⟨v, h1, h2, own_base h3 hW.size⟩)
  have hB0 := B3.out.size
  clear hrow4 hnone4 hcap4 c5 lt
  go_wp2_with fail
  go_region_held3 (fun wx => Below w.heap.size w wx ∧ Below w3.heap.size w3 wx) (first | (go_keep; done) | ((try go_split_ands); (repeat' apply And.intro) <;> first | with_reducible assumption | (with_reducible exact Below.drew (by with_reducible assumption)) | (refine (fun h => Below.trans h (hbq.mono (Below.size h))) ?_; first | with_reducible assumption | (with_reducible exact Below.drew (by with_reducible assumption)))))
  (first
    | (go_at_call 12; ((with_reducible refine (SH1.out _ (by first | with_reducible assumption | exact Below.drew (by with_reducible assumption) | exact (by assumption : Below w.heap.size w _ ∧ Below w3.heap.size w3 _).2 | exact Below.drew (by assumption : Below w.heap.size w _ ∧ Below w3.heap.size w3 _).2)).mono ?_); rintro r wq ⟨v1, rfl, hbq, ho1⟩; have hbq0 := hbq; obtain ⟨A1, c1, rfl⟩ := own7_slice ho1))
    | (go_at_call 12; ((with_reducible refine (SH2.out _ (by first | with_reducible assumption | exact Below.drew (by with_reducible assumption) | exact (by assumption : Below w.heap.size w _ ∧ Below w3.heap.size w3 _).2 | exact Below.drew (by assumption : Below w.heap.size w _ ∧ Below w3.heap.size w3 _).2)).mono ?_); rintro r wr ⟨v2, rfl, hbq, ho2⟩; have ho1b := ho1.kept (⟨hbq.os, hbq.tape, hbq.output, hbq.size, fun k hk _ => hbq.block k hk⟩ : wq.grownBy wr none) (by cases (Value.slice A1 k c1).ownBlock <;> simp); have hf2 := ho2.form (by omega); obtain ⟨g2, cap2, hv2, _, _⟩ := hf2; subst hv2; have hr2 := (Row.own ho2).1; have hzz : w3.heap.size ≤ wr.heap.size := (by have h1 := hW.size; have h2 := hbq0.size; have h3 := hbq.size; (try simp only [World.size_drew] at h1); (try simp only [World.size_drew] at h2); (try simp only [World.size_drew] at h3); omega)))
    | (refine step_append_lies _ rfl (.tmp 68) (.tmp 72) _ rfl w3.heap.size 30 i0 _ 7 64 Tryd.underlying23 hi0 hz0 hz1 hz2 rfl (by omega) (.slice A1 k c1) k (cellsT ((l.take k).map (To.sh 0))) (by rfl) ho1b ⟨g2, 0, none⟩ (l.length - k) cap2 (cellsT ((l.drop k).map (To.sh 1))) (by rfl) (by rw [cellsT_length, List.length_map, List.length_drop]) hr2.at_ (cellsT_one _) (by omega) (by unfold maxLen; omega) (by omega) (by first | exact hzz | (simp only [World.size_drew]; exact hzz)) _ rfl ?_; intro gg cap5 w5 hown5 hgrow5 hat5 hlt5; have hB5 : Below w.heap.size w w5 := (by refine (fun h => Below.grown h hgrow5 (Below.size h) (fun g hg => Nat.le_trans hB0 (own7_ge ho1b g hg))) ?_; first | with_reducible assumption | (with_reducible exact Below.drew (by with_reducible assumption)) | exact (by assumption : Below w.heap.size w _ ∧ Below w3.heap.size w3 _).1 | exact Below.drew (by assumption : Below w.heap.size w _ ∧ Below w3.heap.size w3 _).1); have hW5 : Below w3.heap.size w3 w5 := (by refine (fun h => Below.grown h hgrow5 (Below.size h) (own7_ge ho1b)) ?_; first | with_reducible assumption | (with_reducible exact Below.drew (by with_reducible assumption)) | exact (by assumption : Below w.heap.size w _ ∧ Below w3.heap.size w3 _).2 | exact Below.drew (by assumption : Below w.heap.size w _ ∧ Below w3.heap.size w3 _).2)))
  rename Below w.heap.size w _ ∧ Below w3.heap.size w3 _ => hS
  obtain ⟨hB9, hW9⟩ := hS
  have hown := hown5
  rw [show cellsT ((l.take k).map (To.sh 0)) ++ cellsT ((l.drop k).map (To.sh 1)) = cellsT ((l.take k).map (To.sh 0) ++ (l.drop k).map (To.sh 1)) from (cellsT_append _ _).symm] at hown
  have R4 := Lib.hid (Row.own hown).1
  have B9 := Lib.hid hB9
  have RS9 := Lib.hid (RS.out.kept hW9)
  have EXA := Lib.hid (exact_any o4 (some ⟨gg, 0, none⟩) q4 cap5 ((l.take k).map (To.sh 0) ++ (l.drop k).map (To.sh 1)) w5 RS9.out R4.out (by rw [List.length_append, List.length_map, List.length_map, List.length_take, List.length_drop]; omega))
  rw [show ((l.take k).map (To.sh 0) ++ (l.drop k).map (To.sh 1)).length = k + (l.length - k) from by rw [List.length_append, List.length_map, List.length_map, List.length_take, List.length_drop]; omega] at EXA
  clear hown hown5 hgrow5 hat5 hlt5 hB5 hW5 hB9 hW9 ho1 ho1b ho2 hr2 hbq hbq0 hzz hB hW hB0
  go_wp2_with fail
  refine EXA.out.mono ?_
  rintro e w6 ⟨rfl, hb6⟩
  have B6 := Lib.hid (B9.out.trans (hb6.mono B9.out.size))
  clear hb6
  go_wp2_with fail
  go_ret
  exact ⟨rfl, B6.out⟩

theorem to_mv1 (u : Tk) (a : Nat) (h1 : a ≤ u.ofs) (h2 : a ≤ u.en) : (u.mv a (a + 1)).to = u.to.sh 1 := by
  simp only [Tk.to, Tk.mv, To.sh]
  rw [show ((u.ofs - a + (a + 1) : Nat) : Int) = (u.ofs : Int) + 1 from by omega, show ((u.en - a + (a + 1) : Nat) : Int) = (u.en : Int) + 1 from by omega]

set_option maxHeartbeats 800000 in
theorem run (a0 : ByteArray) (k : Int) (w : World) (w0 : a0.size ≤ maxLen) (wk : (Lit.int .i64 k).wf = true) (hb : a0.size < 4611686018427387904) (ht1 : TabAt w w.heap.size 0 wordL) (ht2 : TabAt w w.heap.size 1 signL) (hP : re.P10 w) :
    Calls Tryd.prog 5 #[.string a0, .int .i64 k] w fun e w' => e = .returned (.bool true) ∧ Below w.heap.size w w' := by
  have AW := Lib.hid (awake_any w ht1 ht2)
  by_cases hs : a0.size ≤ 1048576
  · cases hr : scan (numN a0) a0 (a0.size + 1) 0 [] with
    | ok l =>
      have hlen := tk_len (numN_good a0) hr
      have hl : (l.map Tk.to).length = l.length := List.length_map _
      have LX := Lib.hid (lex_row hs ht1 ht2 hP hr)
      by_cases h0 : k < 0
      · exact run_neg a0 k (l.map Tk.to) (by omega) h0 w AW LX
      · by_cases h1 : ((l.map Tk.to).length : Int) ≤ k
        · exact run_big a0 k (l.map Tk.to) (by omega) h0 h1 w AW LX
        · by_cases h2 : (1048576 : Int) ≤ a0.size
          · exact run_long a0 k (l.map Tk.to) (by omega) h0 h1 h2 w AW LX
          · obtain ⟨n, rfl⟩ := Int.eq_ofNat_of_zero_le (show 0 ≤ k by omega)
            have hn : n < l.length := by omega
            obtain ⟨u, hu⟩ : ∃ u, l[n] = u := ⟨_, rfl⟩
            have hk : l[n]? = some u := by rw [List.getElem?_eq_getElem hn, hu]
            have hbd := tk_bd hr u (by rw [← hu]; exact List.getElem_mem hn)
            have hT : ((l.map Tk.to)[n]'(by omega)).ofs = (u.ofs : Int) := by rw [List.getElem_map, hu]; rfl
            have z0 := Lib.size_eq a0
            have x0 : (a0.extract 0 u.ofs).data.toList = a0.data.toList.take u.ofs := by rw [Lib.extract_data]; simp
            have x1 : (a0.extract u.ofs a0.size).data.toList = a0.data.toList.drop u.ofs := by rw [Lib.extract_data, List.take_of_length_le (by rw [List.length_drop]; omega)]
            have s1 : ∀ w, (Op.stringOp .add (a0.extract 0 u.ofs) ⟨#[32]⟩).run Tryd.prog w = .ok (.string (re.bs (a0.data.toList.take u.ofs ++ [32]))) w := fun w => by
              have h := cat_run (a0.data.toList.take u.ofs) [32] (by rw [List.length_take]; simp only [List.length_cons, List.length_nil]; omega) w
              rw [← x0, bs_self, x0] at h
              exact h
            have s2 : ∀ w, (Op.stringOp .add (re.bs (a0.data.toList.take u.ofs ++ [32])) (a0.extract u.ofs a0.size)).run Tryd.prog w = .ok (.string (re.bs (a0.data.toList.take u.ofs ++ 32 :: a0.data.toList.drop u.ofs))) w := fun w => by
              have h := cat_run (a0.data.toList.take u.ofs ++ [32]) (a0.data.toList.drop u.ofs) (by rw [List.length_append, List.length_take, List.length_drop]; simp only [List.length_cons, List.length_nil]; omega) w
              rw [← x1, bs_self, x1, List.append_assoc] at h
              exact h
            have hsz2 : (re.bs (a0.data.toList.take u.ofs ++ 32 :: a0.data.toList.drop u.ofs)).size = a0.size + 1 := by
              have : (re.bs (a0.data.toList.take u.ofs ++ 32 :: a0.data.toList.drop u.ofs)).size = (a0.data.toList.take u.ofs ++ 32 :: a0.data.toList.drop u.ofs).length := rfl
              rw [this, List.length_append, List.length_cons, List.length_take, List.length_drop]
              omega
            obtain ⟨E1, E2⟩ := bs32 a0 (by omega : u.ofs ≤ a0.size) (s := re.bs (a0.data.toList.take u.ofs ++ 32 :: a0.data.toList.drop u.ofs)) rfl
            have hsc := blanks (numN_good a0) (numN_good _) hr hk rfl (numN_emb E1) (numN_emb E2)
            have LS := lex_row (by omega) ht1 ht2 hP hsc
            have el : (l.take n ++ (l.drop n).map (Tk.mv u.ofs (u.ofs + 1))).map Tk.to = ((l.map Tk.to).take n).map (To.sh 0) ++ ((l.map Tk.to).drop n).map (To.sh 1) := by
              have eA : ((l.map Tk.to).take n).map (To.sh 0) = (l.take n).map Tk.to := by rw [← List.map_take, List.map_map]; exact List.map_congr_left (fun v _ => to_sh0 v)
              have eB : ((l.drop n).map (Tk.mv u.ofs (u.ofs + 1))).map Tk.to = ((l.map Tk.to).drop n).map (To.sh 1) := by
                rw [← List.map_drop, List.map_map, List.map_map]
                refine List.map_congr_left (fun v hv => ?_)
                obtain ⟨j, hj, e⟩ := List.mem_iff_getElem.1 hv
                rw [List.getElem_drop] at e
                have hjl : n + j < l.length := by rw [List.length_drop] at hj; omega
                have hv2 := tk_bd hr v (List.mem_of_mem_drop hv)
                have hge : u.ofs ≤ v.ofs := by
                  rcases Nat.eq_zero_or_pos j with rfl | hp
                  · simp only [Nat.add_zero] at e
                    rw [hu] at e
                    rw [e]
                    exact Nat.le_refl _
                  · have ho := List.pairwise_iff_getElem.1 (ord_all hr).2 n (n + j) hn hjl (by omega)
                    rw [hu, e] at ho
                    omega
                exact to_mv1 v u.ofs hge (by omega)
              rw [List.map_append, eA, eB]
            rw [el] at LS
            rw [show (((l.map Tk.to).take n).map (To.sh 0) ++ ((l.map Tk.to).drop n).map (To.sh 1)).length = n + ((l.map Tk.to).length - n) from by rw [List.length_append, List.length_map, List.length_map, List.length_take, List.length_drop]; omega] at LS
            exact run_in a0 n (l.map Tk.to) (by omega) (by omega) u.ofs hT (by omega) hs h2 (Lib.hid (to_bd hs hr)) _ _ s1 s2 w AW LX (Lib.hid LS)
    | error x =>
      obtain ⟨e, i⟩ := x
      have hne := scan_err (fun a e h => numN_err h) _ _ _ _ _ hr
      exact run_err a0 e i k (by simpa using hne) w AW (Lib.hid (lex_bad hs ht1 ht2 hP hr))
  · exact run_err a0 2 0 k (by decide) w AW (Lib.hid fun w1 _ => lex_long (by omega))

end Go.Proofs.YtiekdgeopicceaaDoor.lexBlanks
