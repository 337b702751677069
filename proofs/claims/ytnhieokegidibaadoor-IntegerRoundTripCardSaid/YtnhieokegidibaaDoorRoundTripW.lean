/-
  IntegerRoundTrip: all ways.
-/
import Derived.Test.YtnhieokegidibaaDoorRoundTripV

namespace Go.Proofs.YtnhieokegidibaaDoor.integerRoundTrip
open Go.RowKit
set_option linter.unusedVariables false

theorem docE_none : docE (bts []) = 7 := by
  rw [(doc_res _).2]
  have e : rest1 (bts []) = bts [] := by
    unfold rest1
    rw [if_neg (by unfold head1; rw [dif_neg (by decide)]; omega)]
  rw [e, resE, allD_none rfl]
  rfl
theorem rest (a0 : Int) (a1 : ByteArray) (a2 : Int) (w : World) (v : Bool) (hs : a1.size ≤ 140737488351232) (HT : Hid (Lib.TabBelow Tryd.prog w.heap.size w "internal/strconv.uint64pow10" .u64 Lib.pow10Tab)) (hv : vld a0 = v) :
    Calls Tryd.prog 4 #[.int .i64 a0, .string a1, .int .i64 a2] w fun e w' => e = .returned (.bool true) ∧ Below w.heap.size w w' := by
  have w1 : a1.size ≤ 9223372036854775807 := by omega
  have hV : v = true → prS a0 = bts (Lib.itoa a0) ∧ prE a0 = 0 := fun k => by rw [k] at hv; simp [prS, prE, hv]
  have hW : v = false → prS a0 = ⟨#[]⟩ ∧ prE a0 = 1 := fun k => by rw [k] at hv; simp [prS, prE, hv]
  have hL : v = true → (Lib.itoa a0).length ≤ 9223372036854775807 := fun k => by
    rw [k] at hv
    have b := vld_iff.1 hv
    have := Lib.itoa_length_le a0 (by omega) (by omega)
    omega
  have hD : v = true → docV (bts (Lib.itoa a0)) = a0 ∧ docE (bts (Lib.itoa a0)) = 0 := fun k => by
    rw [k] at hv
    have b := vld_iff.1 hv
    exact doc_itoa a0 b.1 b.2
  by_cases he : docE a1 = 0
  · by_cases h1 : a2 < 0
    · cases v
      · exact n_low a0 a1 a2 w w1 HT (Lib.hid hv) (Lib.hid (hW rfl)) _ h1 (Lib.hid ⟨rfl, he⟩)
      · exact y_low a0 a1 a2 w w1 HT (Lib.hid hv) (Lib.hid (hV rfl)) (Lib.hid (hD rfl)) (Lib.hid (hL rfl)) _ h1 (Lib.hid ⟨rfl, he⟩)
    · by_cases h2 : 9 < a2
      · cases v
        · exact n_high a0 a1 a2 w w1 HT (Lib.hid hv) (Lib.hid (hW rfl)) _ (by omega) h2 (Lib.hid ⟨rfl, he⟩)
        · exact y_high a0 a1 a2 w w1 HT (Lib.hid hv) (Lib.hid (hV rfl)) (Lib.hid (hD rfl)) (Lib.hid (hL rfl)) _ (by omega) h2 (Lib.hid ⟨rfl, he⟩)
      · have hd : a2.toNat < 10 := by omega
        have hda : ((a2.toNat : Nat) : Int) = a2 := by omega
        have hl : a1.data.toList ≠ [] := fun k => by
          rw [← bts_self a1, k, docE_none] at he; omega
        have he2 : docE (bts a1.data.toList) = 0 := by rw [bts_self]; exact he
        have hne : 0 < a1.size := by
          have : (bts a1.data.toList).size = a1.data.toList.length := bts_size _
          rw [bts_self] at this
          rw [this]
          exact List.length_pos_iff.2 hl
        have h0 := full_list hne
        have hh : head1 a1 = (a1[0].toNat : Int) := dif_pos hne
        have hp : prS a2 = bts [UInt8.ofNat (48 + a2.toNat)] ∧ prE a2 = 0 := by
          have hv2 : vld a2 = true := vld_mk (by omega)
          simp only [prS, prE, hv2, if_true]
          refine ⟨?_, trivial⟩
          rw [Lib.itoa, if_neg (by omega), Lib.decDigits_one hd]
        have hzl : (bts (a1.data.toList ++ [UInt8.ofNat (48 + a2.toNat)])).size ≤ 9223372036854775807 := by
          have : (bts a1.data.toList).size = a1.data.toList.length := bts_size _
          rw [bts_self] at this
          rw [bts_size, List.length_append, ← this]
          simp; omega
        obtain ⟨x, hx0, hx1, hx, hy⟩ := doc_snoc a1.data.toList a2.toNat hd hl he2
        rw [bts_self, hda] at *
        generalize UInt8.ofNat (48 + a2.toNat) = c at *
        by_cases hb : 10 * x ≤ 2147483647
        · have vx : ∀ z : Int, -2147483647 ≤ z → z ≤ 2147483647 → vld z = true := fun z k1 k2 => vld_mk ⟨k1, k2⟩
          cases hn : negB a1
          · have h45 : ((a1[0].toNat : Int) == 45) = false := by
              rw [negB, hh] at hn; simpa using hn
            rw [hn] at hx hy
            simp only [Bool.false_eq_true, if_false] at hx hy
            have hm : mulV x 10 = 10 * x ∧ mulE x 10 = 0 := by
              have := mul_ok (bth_mk (vx x (by omega) (by omega)) (vx 10 (by omega) (by omega))) (vx (x * 10) (by omega) (by omega))
              rw [this.1, this.2]; exact ⟨by omega, rfl⟩
            have ha : addV (10 * x) a2 = docV (bts (a1.data.toList ++ [c])) ∧ addE (10 * x) a2 = docE (bts (a1.data.toList ++ [c])) := by
              rcases hy with ⟨k1, k2, k3⟩ | ⟨k1, k2, k3⟩
              · rw [k2, k3]; exact add_ok (bth_mk (vx _ (by omega) (by omega)) (vx _ (by omega) (by omega))) (vx _ (by omega) (by omega))
              · rw [k2, k3]; exact add_out (bth_mk (vx _ (by omega) (by omega)) (vx _ (by omega) (by omega))) (vld_no (by omega))
            cases v
            · exact n_p1 a0 a1 a2 w w1 HT (Lib.hid hv) (Lib.hid (hW rfl)) c a2 x _ _ _ (by omega) (by omega) h0 hne h45 (Lib.hid ⟨hx, he⟩) (Lib.hid hp) (Lib.hid ⟨rfl, rfl⟩) (Lib.hid hs) (Lib.hid hzl) (Lib.hid hm) (Lib.hid ha)
            · exact y_p1 a0 a1 a2 w w1 HT (Lib.hid hv) (Lib.hid (hV rfl)) (Lib.hid (hD rfl)) (Lib.hid (hL rfl)) c a2 x _ _ _ (by omega) (by omega) h0 hne h45 (Lib.hid ⟨hx, he⟩) (Lib.hid hp) (Lib.hid ⟨rfl, rfl⟩) (Lib.hid hs) (Lib.hid hzl) (Lib.hid hm) (Lib.hid ha)
          · have h45 : (a1[0].toNat : Int) = 45 := by
              rw [negB, hh] at hn; simpa using hn
            rw [hn] at hx hy
            simp only [if_true] at hx hy
            have hm : mulV (-x) 10 = -(10 * x) ∧ mulE (-x) 10 = 0 := by
              have := mul_ok (bth_mk (vx (-x) (by omega) (by omega)) (vx 10 (by omega) (by omega))) (vx (-x * 10) (by omega) (by omega))
              rw [this.1, this.2]; exact ⟨by omega, rfl⟩
            have ha : addV (-(10 * x)) (-a2) = docV (bts (a1.data.toList ++ [c])) ∧ addE (-(10 * x)) (-a2) = docE (bts (a1.data.toList ++ [c])) := by
              rcases hy with ⟨k1, k2, k3⟩ | ⟨k1, k2, k3⟩
              · rw [k2, k3]
                have := add_ok (bth_mk (vx (-(10 * x)) (by omega) (by omega)) (vx (-a2) (by omega) (by omega))) (vx (-(10 * x) + -a2) (by omega) (by omega))
                rw [this.1, this.2]; exact ⟨by omega, rfl⟩
              · rw [k2, k3]; exact add_out (bth_mk (vx _ (by omega) (by omega)) (vx _ (by omega) (by omega))) (vld_no (by omega))
            cases v
            · exact n_m1 a0 a1 a2 w w1 HT (Lib.hid hv) (Lib.hid (hW rfl)) c a2 (-x) _ _ _ (by omega) (by omega) h0 hne h45 (Lib.hid ⟨hx, he⟩) (Lib.hid hp) (Lib.hid ⟨rfl, rfl⟩) (Lib.hid hs) (Lib.hid hzl) (Lib.hid hm) (Lib.hid ha)
            · exact y_m1 a0 a1 a2 w w1 HT (Lib.hid hv) (Lib.hid (hV rfl)) (Lib.hid (hD rfl)) (Lib.hid (hL rfl)) c a2 (-x) _ _ _ (by omega) (by omega) h0 hne h45 (Lib.hid ⟨hx, he⟩) (Lib.hid hp) (Lib.hid ⟨rfl, rfl⟩) (Lib.hid hs) (Lib.hid hzl) (Lib.hid hm) (Lib.hid ha)
        · have hz : docV (bts (a1.data.toList ++ [c])) = 0 ∧ docE (bts (a1.data.toList ++ [c])) = 3 := by
            rcases hy with ⟨k1, k2, k3⟩ | ⟨k1, k2, k3⟩
            · omega
            · exact ⟨k2, k3⟩
          have vx : ∀ z : Int, -2147483647 ≤ z → z ≤ 2147483647 → vld z = true := fun z k1 k2 => vld_mk ⟨k1, k2⟩
          cases hn : negB a1
          · have h45 : ((a1[0].toNat : Int) == 45) = false := by
              rw [negB, hh] at hn; simpa using hn
            rw [hn] at hx
            simp only [Bool.false_eq_true, if_false] at hx
            have hm : mulV x 10 = 0 ∧ mulE x 10 = 3 := mul_out (bth_mk (vx x (by omega) (by omega)) (vx 10 (by omega) (by omega))) (vld_no (by omega))
            cases v
            · exact n_p0 a0 a1 a2 w w1 HT (Lib.hid hv) (Lib.hid (hW rfl)) c a2 x (by omega) (by omega) h0 hne h45 (Lib.hid ⟨hx, he⟩) (Lib.hid hp) (Lib.hid hz) (Lib.hid hs) (Lib.hid hzl) (Lib.hid hm)
            · exact y_p0 a0 a1 a2 w w1 HT (Lib.hid hv) (Lib.hid (hV rfl)) (Lib.hid (hD rfl)) (Lib.hid (hL rfl)) c a2 x (by omega) (by omega) h0 hne h45 (Lib.hid ⟨hx, he⟩) (Lib.hid hp) (Lib.hid hz) (Lib.hid hs) (Lib.hid hzl) (Lib.hid hm)
          · have h45 : (a1[0].toNat : Int) = 45 := by
              rw [negB, hh] at hn; simpa using hn
            rw [hn] at hx
            simp only [if_true] at hx
            have hm : mulV (-x) 10 = 0 ∧ mulE (-x) 10 = 3 := mul_out (bth_mk (vx (-x) (by omega) (by omega)) (vx 10 (by omega) (by omega))) (vld_no (by omega))
            cases v
            · exact n_m0 a0 a1 a2 w w1 HT (Lib.hid hv) (Lib.hid (hW rfl)) c a2 (-x) (by omega) (by omega) h0 hne h45 (Lib.hid ⟨hx, he⟩) (Lib.hid hp) (Lib.hid hz) (Lib.hid hs) (Lib.hid hzl) (Lib.hid hm)
            · exact y_m0 a0 a1 a2 w w1 HT (Lib.hid hv) (Lib.hid (hV rfl)) (Lib.hid (hD rfl)) (Lib.hid (hL rfl)) c a2 (-x) (by omega) (by omega) h0 hne h45 (Lib.hid ⟨hx, he⟩) (Lib.hid hp) (Lib.hid hz) (Lib.hid hs) (Lib.hid hzl) (Lib.hid hm)
  · have he2 : (docE a1 != 0) = true := by simpa using he
    cases v
    · exact n_bad a0 a1 a2 w w1 HT (Lib.hid hv) (Lib.hid (hW rfl)) _ _ he2 (Lib.hid ⟨rfl, rfl⟩)
    · exact y_bad a0 a1 a2 w w1 HT (Lib.hid hv) (Lib.hid (hV rfl)) (Lib.hid (hD rfl)) (Lib.hid (hL rfl)) _ _ he2 (Lib.hid ⟨rfl, rfl⟩)

theorem run (a0 : Int) (a1 : ByteArray) (a2 : Int) (w : World) (w0 : (Lit.int .i64 a0).wf = true) (w1 : a1.size ≤ maxLen) (w2 : (Lit.int .i64 a2).wf = true) (htab : Tab w) (hs : a1.size ≤ 140737488351232) :
    Calls Tryd.prog 4 #[.int .i64 a0, .string a1, .int .i64 a2] w fun e w' => e = .returned (.bool true) ∧ Below w.heap.size w w' :=
  rest a0 a1 a2 w _ hs (Lib.hid (Lib.tabBelow_of_tabIs htab)) rfl

end Go.Proofs.YtnhieokegidibaaDoor.integerRoundTrip
