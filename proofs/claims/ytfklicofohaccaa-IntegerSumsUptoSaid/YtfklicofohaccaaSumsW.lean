import Derived.Test.YtfklicofohaccaaRow

namespace Go.Proofs.Ytfklicofohaccaa.integerSums
open Go.RowKit

set_option maxRecDepth 100000 in
set_option maxHeartbeats 1600000 in
theorem run (A0 A1 : Option Addr) (c0 c1 : Nat) (k l : List Int) (w : World) (hk : Reads w A0 k) (hl : Reads w A1 l) (hk0 : A0 = none → k.length = 0 ∧ c0 = 0) (hl0 : A1 = none → l.length = 0 ∧ c1 = 0)
    (room : k.length + l.length ≤ 4194304) :
    Calls Try.prog 12 #[.slice A0 k.length c0, .slice A1 l.length c1] w fun e w' => e = .returned (.bool true) ∧ Below w.heap.size w w' := by
  obtain ⟨i0, hi0', hz0', hz1', hz2'⟩ := int_parts
  have hi0 := Lib.hid hi0'
  have hz0 := Lib.hid hz0'
  have hz1 := Lib.hid hz1'
  have hz2 := Lib.hid hz2'
  have HK := Lib.hid hk
  have HL := Lib.hid hl
  have HK0 := Lib.hid hk0
  have HL0 := Lib.hid hl0
  clear hi0' hz0' hz1' hz2' hk hl hk0 hl0
  go_enter Try.func12, Try.ntmps12
  go_wp2_with fail
  refine (awake_any _).mono ?_; rintro e w' ⟨rfl, rfl⟩
  go_wp2_with (first
    | (at_builtin
       refine wpl_more _ rfl (.tmp 20) (.tmp 21) _ rfl w.heap.size 3 i0 Try.underlying29 hi0.out hz0.out hz1.out hz2.out (.slice none 0 0) 0 [] k (by rfl) ⟨by simp [ints], .inl ⟨rfl, rfl⟩⟩ A0 k.length c0 (by rfl) rfl HK.out HK0.out (by omega) (Nat.le_refl _) ?_
       intro v1 w1 hown1 hg1 hat1
       have HB1 := Lib.hid (show Below w.heap.size w w1 from (Below.refl _ _).grown hg1 (Nat.le_refl _) (by simp [Value.ownBlock]))
       have HO1 := Lib.hid hown1
       clear hown1 hg1 hat1)
    | (at_builtin
       refine wpl_more _ rfl (.tmp 23) (.tmp 24) _ rfl w.heap.size 3 i0 Try.underlying29 hi0.out hz0.out hz1.out hz2.out v1 (0 + k.length) ([] ++ k) l (by rfl) HO1.out A1 l.length c1 (by rfl) rfl (HL.out.below HB1.out) HL0.out (by omega) HB1.out.size ?_
       intro v2 w2 hown2 hg2 hat2
       have HB2 := Lib.hid (show Below w.heap.size w w2 from HB1.out.grown hg2 HB1.out.size (own_ge HO1.out))
       have HO2 := Lib.hid hown2
       clear hown2 hg2 hat2
       obtain ⟨n, hn⟩ : ∃ n, n = 0 + k.length + l.length := ⟨_, rfl⟩
       obtain ⟨b, hb⟩ : ∃ b, b = k ++ l := ⟨_, rfl⟩
       rw [← hn, List.nil_append, ← hb] at HO2
       have HBB := Lib.hid hb
       have hN : n ≤ 4194304 := by omega
       clear hn hb
       obtain ⟨A2, c2, hv2, hA2⟩ := own_slice HO2.out
       subst hv2
       have HR2 := Lib.hid (Reads.own HO2.out)
       clear hA2))
  have HB := Lib.hid (show Below w2.heap.size w2 w2 from Below.refl _ _)
  go_loopw [7, 8] (fun v i wr => ∃ (m : Nat) (x : Int), m ≤ n ∧ i = .int .i64 x ∧ x = (m : Int) - 1 ∧ wr.ownsRow w2.heap.size 3 1 v (n - m) (ints (b.drop m).reverse) ∧ Below w2.heap.size w2 wr)
    (fun _ i _ => (intOf i + 1).toNat)
  case atStart =>
    refine ⟨n, (n : Int) - 1, Nat.le_refl _, by go_num, rfl, ⟨by simp [ints, ← HR2.out.2], .inl ⟨rfl, by omega⟩⟩, Below.refl _ _⟩
  case round =>
    obtain ⟨m, x, hm, rfl, hx, hown, hbel⟩ := hrel
    have HOW := Lib.hid hown
    have HBW := Lib.hid hbel
    clear hown hbel
    rcases m with _ | m
    · obtain rfl : x = -1 := by omega
      clear hx
      have hown := HOW.out
      rw [Nat.sub_zero, List.drop_zero] at hown
      obtain ⟨A3, c3, hu7, _⟩ := own_slice hown
      subst hu7
      have HR3 := Lib.hid (Reads.own hown)
      clear hown HOW
      have HW := Lib.hid (show Below w.heap.size w wr from HB2.out.trans (HBW.out.mono HB2.out.size))
      have R0 := Lib.hid (HK.out.below HW.out)
      have R1 := Lib.hid (HL.out.below HW.out)
      have R2 := Lib.hid (HR2.out.1.below HBW.out)
      have EV := Lib.hid (rev_sum b)
      clear HB HB1 HB2 HO1 HO2 HK HL HK0 HL0
      go_wp2_with fail
      refine (sum_len A0 k.length c0 k _ R0.out rfl (by omega)).mono ?_; rintro e w' ⟨rfl, rfl⟩
      go_wp2_with fail
      refine (sum_len A1 l.length c1 l _ R1.out rfl (by omega)).mono ?_; rintro e w' ⟨rfl, rfl⟩
      go_wp2_with fail
      refine (sum_len A2 n c2 b _ R2.out HR2.out.2 (by omega)).mono ?_; rintro e w' ⟨rfl, rfl⟩
      go_wp2_with fail
      refine (sum_len A3 n c3 b.reverse _ HR3.out.1 HR3.out.2 (by omega)).mono ?_; rintro e w' ⟨rfl, rfl⟩
      rw [EV.out.1, EV.out.2]
      obtain rfl := HBB.out
      by_cases hek : sumE k = 0
      · by_cases hel : sumE l = 0
        · have EK := Lib.hid hek
          have EL := Lib.hid hel
          go_wp2_with (go_at_call 21; refine (add_sums EK.out EL.out _).mono ?_; rintro e w' ⟨rfl, rfl⟩)
          go_ret
          exact ⟨by simp, HW.out⟩
        · go_wp2_with fail
          go_ret
          exact ⟨rfl, HW.out⟩
      · go_wp2_with fail
        go_ret
        exact ⟨rfl, HW.out⟩
    · obtain rfl : x = (m : Int) := by omega
      clear hx
      have hlt : m < n := by omega
      rcases HR2.out.1.below HBW.out with h0 | ⟨bl, off, hA, hc⟩
      · exact absurd (HR2.out.2 ▸ hlt : m < b.length) (by rw [h0]; simp)
      have hcell := hc m (HR2.out.2 ▸ hlt)
      subst hA
      have HC := Lib.hid hc
      clear hc
      obtain ⟨y, ey⟩ : ∃ y, y = b[m]?.getD 0 := ⟨_, rfl⟩
      rw [← ey] at hcell
      have EY := Lib.hid ey
      clear ey
      go_wp2_with (at_builtin
                   refine wpl_more _ rfl (.tmp 33) (.tmp 38) _ rfl w2.heap.size 3 i0 Try.underlying29 hi0.out hz0.out hz1.out hz2.out u7 (n - (m + 1)) (b.drop (m + 1)).reverse [y] (by rfl) (HOW.out.alloc _) (some ⟨wr.heap.size, 0, none⟩) 1 1 (by rfl) rfl (reads_new wr y _) (fun h => by cases h) (by omega) (by have := HBW.out.size; simp; omega) ?_
                   intro v3 w3 hown3 hg3 hat3
                   have HB3 := Lib.hid (show Below w2.heap.size w2 w3 from (HBW.out.alloc HBW.out.size _).grown hg3 (by have := HBW.out.size; simp; omega) (own_ge HOW.out))
                   have HO3 := Lib.hid hown3
                   clear hown3 hg3 hat3)
      go_roundw
      case rel => exact ⟨m, (m : Int) - 1, by omega, by go_num, rfl, by
        have h := HO3.out
        rw [EY.out, drop_rev (HR2.out.2 ▸ hlt), show n - (m + 1) + 1 = n - m from by omega] at h
        exact h, HB3.out⟩
      case measure => simp [intOf]

end Go.Proofs.Ytfklicofohaccaa.integerSums
