/-
  The walk of the statement LexDiffs.
-/
import Derived.Test.YtnocgfddpdjjeaaDoorTok7
import Derived.Test.YtnocgfddpdjjeaaDoorLex6
import Derived.Test.YtnocgfddpdjjeaaDoorLex17
import Derived.Deep.DeepCutAuto
import Derived.WalkKit

namespace Go.Proofs.YtnocgfddpdjjeaaDoor.lexDiffs
open Go.RowKit
set_option linter.unusedVariables false

set_option maxRecDepth 100000 in
set_option maxHeartbeats 1600000 in
theorem run (o0 o1 : Option Addr) (c0 c1 : Nat) (l0 l1 : List To) (w : World) (hr0 : Row w o0 l0) (hl0 : l0.length ≤ maxLen) (hr1 : Row w o1 l1) (hl1 : l1.length ≤ maxLen)
    (hc0 : l0.length ≤ c0) (hc1 : l1.length ≤ c1) (hm0 : c0 ≤ maxLen) (hm1 : c1 ≤ maxLen) (hn0 : o0 = none → c0 = 0) (hn1 : o1 = none → c1 = 0) (room : l1.length * 64 ≤ 140737488355328) (ht1 : TabAt w w.heap.size 1 wordL) (ht2 : TabAt w w.heap.size 2 signL) :
    Calls Tryd.prog 5 #[.slice o0 l0.length c0, .slice o1 l1.length c1] w fun e w' => e = .returned (.bool true) ∧ Below w.heap.size w w' := by
  have HX := Lib.hid (show ∀ w', Below w.heap.size w w' → Row w' o0 l0 ∧ Row w' o1 l1 from
    fun w' h => ⟨hr0.kept h, hr1.kept h⟩)
  have HL0 := Lib.hid hl0
  have HL1 := Lib.hid hl1
  have AW := Lib.hid (awake_any w ht1 ht2)
  obtain ⟨i0, hi0', hz0', hs0', hb0'⟩ := info_parts info47
  have hmx0 : c0 ≤ 9223372036854775807 := by have := hm0; unfold maxLen at this; omega
  have hmx1 : c1 ≤ 9223372036854775807 := by have := hm1; unfold maxLen at this; omega
  have hH := diffH_le l0 l1
  have hT := diffT_le l0 l1
  have MS := Lib.hid (made_same l0 l1)
  have MD := Lib.hid (made_is l0 l1)
  have HS := Lib.hid (head_stops l0 l1)
  have TS := Lib.hid (tail_stops l0 l1)
  have DA := Lib.hid (fun w' h => diff_any o0 o1 c0 c1 l0 l1 w' (HX.out w' h).1 (HX.out w' h).2 hl0 hl1)
  generalize diffH l0 l1 = H at *
  generalize diffT l0 l1 = T at *
  clear hr0 hr1 ht1 ht2 hl0 hl1 hm0 hm1
  obtain ⟨n, hn⟩ : ∃ n, n = min l0.length l1.length := ⟨_, rfl⟩
  have hmi : (min (l0.length : Int) (l1.length : Int)) = (n : Int) := by omega
  rw [← hn] at hH hT HS TS
  have hnl0 : n ≤ l0.length := by omega
  have hnl1 : n ≤ l1.length := by omega
  have HMI := Lib.hid hmi
  clear hmi hn
  go_enter Tryd.func5, Tryd.ntmps5
  go_wp2_with fail
  refine AW.out.mono ?_
  rintro e w1 ⟨rfl, h1⟩
  have H1 := Lib.hid h1
  clear h1
  go_wp2_with fail
  refine (DA.out w1 H1.out).mono ?_
  rintro e w2 ⟨rfl, h2⟩
  have H2 := Lib.hid (H1.out.trans (h2.mono H1.out.size))
  clear h2
  have q1 : ((H : Int) < 0) = False := by simp
  have q2 : ((T : Int) < 0) = False := by simp
  have q3 : ¬ ((n : Int) < (H : Int)) := by omega
  have q4 : ¬ ((n : Int) - (H : Int) < (T : Int)) := by omega
  go_upto_region 4 with fail
  rw [HMI.out]
  have I0 := Lib.hid hi0'
  have Z0 := Lib.hid hz0'
  have Z1 := Lib.hid hs0'
  have Z2 := Lib.hid hb0'
  clear hi0' hz0' hs0' hb0'
  have N0 := Lib.hid hn0
  have N1 := Lib.hid hn1
  clear hn0 hn1
  have w1' : IntKind.i64.wrap ((l1.length : Int) - T) = ((l1.length - T : Nat) : Int) := by rw [wrap64 _ (by omega) (by omega)]; omega
  have w2' : IntKind.i64.wrap ((l0.length : Int) - T) = ((l0.length - T : Nat) : Int) := by rw [wrap64 _ (by omega) (by omega)]; omega
  have e1 : ((l1.length : Int) - T) = ((l1.length - T : Nat) : Int) := by omega
  have e2 : ((l0.length : Int) - T) = ((l0.length - T : Nat) : Int) := by omega
  have b1 : H ≤ l1.length - T := by omega
  have b2 : l1.length - T ≤ c1 := by omega
  have b3 : l0.length - T ≤ l0.length := by omega
  go_wp2_with (first
    | (at_builtin
       refine wpl_toks _ rfl (.tmp 42) (.tmp 45) _ rfl w.heap.size 47 i0 _ Tryd.underlying22 I0.out Z0.out rfl Z1.out Z2.out (.slice none 0 0) 0 [] (l0.take H) (by rfl) ⟨rfl, .inl ⟨rfl, rfl⟩⟩ o0 H c0 (by rfl) (by rw [List.length_take]; omega) ((HX.out _ H2.out).1.take H) (fun e => ⟨by have := N0.out e; omega, N0.out e⟩) (by omega) H2.out.size ?_
       intro v1 w3 hown1 hg1
       have HB1 := Lib.hid (show Below w.heap.size w w3 from H2.out.grown hg1 H2.out.size (by simp [Value.ownBlock]))
       have HO1 := Lib.hid hown1
       clear hown1 hg1)
    | (at_builtin
       refine wpl_toks _ rfl (.tmp 47) (.tmp 54) _ rfl w.heap.size 47 i0 _ Tryd.underlying22 I0.out Z0.out rfl Z1.out Z2.out v1 (0 + H) ([] ++ l0.take H) ((l1.drop H).take (l1.length - T - H)) (by rfl) HO1.out (rsl o1 c1 H) (l1.length - T - H) (c1 - H) (by rfl) (by rw [List.length_take, List.length_drop]; omega) ((HX.out w3 HB1.out).2.cut c1 H (l1.length - T) b1 (by omega) hc1) (fun e => ⟨by have := N1.out (rsl_none e); omega, by have := N1.out (rsl_none e); omega⟩) (by omega) HB1.out.size ?_
       intro v2 w4 hown2 hg2
       have HB2 := Lib.hid (show Below w.heap.size w w4 from HB1.out.grown hg2 HB1.out.size (own7_ge HO1.out))
       have HO2 := Lib.hid hown2
       clear hown2 hg2
       generalize (if c1 = H then o1 else Option.map (fun x => x.add (H * 7)) o1) = oA)
    | (at_builtin
       refine wpl_toks _ rfl (.tmp 56) (.tmp 62) _ rfl w.heap.size 47 i0 _ Tryd.underlying22 I0.out Z0.out rfl Z1.out Z2.out v2 (0 + H + (l1.length - T - H)) ([] ++ l0.take H ++ (l1.drop H).take (l1.length - T - H)) ((l0.drop (l0.length - T)).take (l0.length - (l0.length - T))) (by rfl) HO2.out (rsl o0 c0 (l0.length - T)) (l0.length - (l0.length - T)) (c0 - (l0.length - T)) (by rfl) (by rw [List.length_take, List.length_drop]; omega) ((HX.out w4 HB2.out).1.cut c0 (l0.length - T) l0.length b3 (Nat.le_refl _) hc0) (fun e => ⟨by have := N0.out (rsl_none e); omega, by have := N0.out (rsl_none e); omega⟩) (by omega) HB2.out.size ?_
       intro v3 w5 hown3 hg3
       have HB3 := Lib.hid (show Below w.heap.size w w5 from HB2.out.grown hg3 HB2.out.size (own7_ge HO2.out))
       rw [show 0 + H + (l1.length - T - H) + (l0.length - (l0.length - T)) = l1.length from by omega, MD.out] at hown3
       obtain ⟨A3, c3, hv3⟩ := own7_slice hown3
       subst hv3
       have HR3 := Lib.hid (Row.own hown3)
       clear hown3 hg3
       generalize (if c0 = l0.length - T then o0 else Option.map (fun x => x.add ((l0.length - T) * 7)) o0) = oB
       clear MD
       generalize madeT l0 l1 = md at *))
  have SA := Lib.hid (show Calls Tryd.prog 18 #[.slice A3 l1.length c3, .slice o1 l1.length c1] w5 fun r w' => r = .returned (.bool true) ∧ Below w5.heap.size w5 w' from by
    have := same_any A3 o1 c3 c1 md l1 w5 HR3.out.1 (HX.out w5 HB3.out).2 (by rw [MS.out.1]; exact HL1.out)
    rw [MS.out.1, MS.out.2] at this
    exact this)
  refine SA.out.mono ?_
  rintro e w6 ⟨rfl, h6⟩
  have H6 := Lib.hid (HB3.out.trans (h6.mono HB3.out.size))
  clear h6
  by_cases hg : H < n
  · have hne0 : ¬ c0 = H := by omega
    have hne1 : ¬ c1 = H := by omega
    have w3' : IntKind.i64.wrap ((H : Int) + 1) = ((H + 1 : Nat) : Int) := by rw [wrap64 _ (by omega) (by omega)]; omega
    have b4 : (H : Int) + 1 ≤ (c0 : Int) := by omega
    have b5 : (H : Int) + 1 ≤ (c1 : Int) := by omega
    have b6 : (0 : Int) ≤ (H : Int) + 1 := by omega
    have b7 : (H : Int) ≤ (H : Int) + 1 := by omega
    have b8 : ((H : Int) + 1).toNat = H + 1 := by omega
    have FA := Lib.hid ((fh_is (l := l0) (l2 := l1) (k := H) (by omega) (by omega)).symm.trans (HS.out hg))
    go_wp2_with fail
    go_still_tail 14, (by kernel_rfl)
    change wpList _ _ _ _ _ w6.drew
    go_wp2_with fail
    refine (same_one (HX.out _ H6.out.drew).1 (HX.out _ H6.out.drew).2 (k := H) (j := H) (by omega) (by omega) hc0 hc1).mono ?_
    rintro e w7 ⟨rfl, h7⟩
    rw [FA.out]
    have H7 := Lib.hid (H6.out.drew.trans (h7.mono (by have := H6.out.size; simpa using this)))
    clear h7
    by_cases hq : H + T = n
    · have hqi : (((H : Int) + (T : Int)) == (n : Int)) = true := by simp; omega
      have w5' : IntKind.i64.wrap ((H : Int) + T) = (H : Int) + T := wrap64 _ (by omega) (by omega)
      clear FA b4 b5 b6 b7 b8
      go_wp2_with fail
      go_quiet (fail)
      go_wp2_with fail
      go_ret
      exact ⟨rfl, below_drewN H7.out _⟩
    · have hqi : (((H : Int) + (T : Int)) == (n : Int)) = false := by simp; omega
      have w5' : IntKind.i64.wrap ((H : Int) + T) = (H : Int) + T := wrap64 _ (by omega) (by omega)
      clear FA b4 b5 b6 b7 b8
      have FB := Lib.hid ((ft_is (l := l0) (l2 := l1) (k := T) (by omega) (by omega)).symm.trans (TS.out hq))
      obtain ⟨I, hI⟩ : ∃ I, I = l0.length - 1 - T := ⟨_, rfl⟩
      obtain ⟨J, hJ⟩ : ∃ J, J = l1.length - 1 - T := ⟨_, rfl⟩
      have hI1 : I < l0.length := by omega
      have hJ1 : J < l1.length := by omega
      have FB2 := Lib.hid (show alikeT l0[I] l1[J] = false from by subst hI hJ; exact FB.out)
      have x1 : IntKind.i64.wrap (((l0.length - T : Nat) : Int) - 1) = (I : Int) := by rw [wrap64 _ (by omega) (by omega)]; omega
      have x2 : IntKind.i64.wrap (((l1.length - T : Nat) : Int) - 1) = (J : Int) := by rw [wrap64 _ (by omega) (by omega)]; omega
      have x1' : (((l0.length - T : Nat) : Int) - 1) = (I : Int) := by omega
      have x2' : (((l1.length - T : Nat) : Int) - 1) = (J : Int) := by omega
      have x3 : IntKind.i64.wrap ((I : Int) + 1) = ((I + 1 : Nat) : Int) := by rw [wrap64 _ (by omega) (by omega)]; omega
      have x4 : IntKind.i64.wrap ((J : Int) + 1) = ((J + 1 : Nat) : Int) := by rw [wrap64 _ (by omega) (by omega)]; omega
      have b4 : (I : Int) + 1 ≤ (c0 : Int) := by omega
      have b5 : (J : Int) + 1 ≤ (c1 : Int) := by omega
      have b6 : (0 : Int) ≤ (I : Int) + 1 := by omega
      have b7 : (I : Int) ≤ (I : Int) + 1 := by omega
      have b8 : ((I : Int) + 1).toNat = I + 1 := by omega
      have b9 : (0 : Int) ≤ (J : Int) + 1 := by omega
      have b10 : (J : Int) ≤ (J : Int) + 1 := by omega
      have b11 : ((J : Int) + 1).toNat = J + 1 := by omega
      have hneI : ¬ c0 = I := by omega
      have hneJ : ¬ c1 = J := by omega
      clear FB hI hJ
      go_wp2_with fail
      go_still_tail 18, (by kernel_rfl)
      change wpList _ _ _ _ _ w7.drew
      go_wp2_with fail
      refine (same_one (HX.out _ H7.out.drew).1 (HX.out _ H7.out.drew).2 (k := I) (j := J) hI1 hJ1 hc0 hc1).mono ?_
      rintro e w8 ⟨rfl, h8⟩
      rw [FB2.out]
      have H8 := Lib.hid (H7.out.drew.trans (h8.mono (by have := H7.out.size; simpa using this)))
      clear h8
      go_wp2_with fail
      go_ret
      exact ⟨rfl, H8.out⟩
  · have hq : H + T = n := by omega
    have hqi : (((H : Int) + (T : Int)) == (n : Int)) = true := by simp; omega
    have hgi : decide ((H : Int) < (n : Int)) = false := by simp; omega
    have w5' : IntKind.i64.wrap ((H : Int) + T) = (H : Int) + T := wrap64 _ (by omega) (by omega)
    go_wp2_with fail
    go_quiet (fail)
    go_wp2_with fail
    go_quiet (fail)
    go_wp2_with fail
    go_ret
    exact ⟨rfl, below_drewN (below_drewN H6.out _) _⟩

end Go.Proofs.YtnocgfddpdjjeaaDoor.lexDiffs
