/-
  PACKAGE real: printed.
-/
import Derived.Test.YtbfknapmhkpgcaaGreatDoorDig6
import Derived.Deep.RegionWith
import Derived.IntWalk
import Derived.Lib.ItoaLen
import Derived.Lib.AppendIntMem

namespace Go.Proofs.YtbfknapmhkpgcaaGreatDoor
open Go.RowKit
set_option linter.unusedVariables false

abbrev TabQ (w : World) : Prop := Lib.TabIs Tryz.prog w "internal/strconv.uint64pow10" .u64 Lib.pow10Tab

theorem TabQ.kept {w w' : World} (h : TabQ w) (k : Below w.heap.size w w') : TabQ w' := Joins.var_stays (g := 5) (by kernel_rfl) h k (Nat.le_refl _)

theorem it_any (n : Int) (w : World) (h0 : -9223372036854775808 ≤ n) (h1 : n ≤ 9223372036854775807) (ht : TabQ w) :
    Calls Tryz.prog 93 #[.int .i64 n] w fun r w' => r = .returned (.string (bs (Lib.itoa n))) ∧ Below w.heap.size w w' := by
  refine (Tryz.strconv_Itoa n h0 h1 w ht).mono ?_
  rintro r w' ⟨rfl, k, os, rfl⟩
  exact ⟨rfl, Lib.below_grow _ _ (Nat.le_refl _) _ _⟩

theorem rep_any (c : Nat) (w : World) (hc : c ≤ 1000000) :
    Calls Tryz.prog 94 #[.string ⟨#[48]⟩, .int .i64 (c : Int)] w fun r w' => r = .returned (.string (bs (List.replicate c 48))) ∧ Below w.heap.size w w' := by
  refine (Tryz.strings_Repeat ⟨#[48]⟩ c w (by omega) (by simp [ByteArray.size]; omega)).mono ?_
  rintro r w' ⟨rfl, h⟩
  refine ⟨?_, h⟩
  have : ∀ c, Lib.repeatL [48] c = List.replicate c 48 := fun c => by
    induction c with
    | zero => rfl
    | succ c ih => rw [Lib.repeatL, ih]; rfl
  show Ending.returned (.string ⟨(Lib.repeatL [48] c).toArray⟩) = _
  rw [this]

set_option maxRecDepth 100000 in
set_option maxHeartbeats 1600000 in
set_option maxHeartbeats 1600000 in
theorem pr_lo (d x1 x2 oz it s1 s2 s3 s4 : ByteArray) (k : Int) (w : World) (hk1 : k < -3) (hk8 : -100000 ≤ k) (hk9 : k ≤ 100000) (hsz : 1 ≤ d.size) (hX1 : d.extract 0 1 = x1) (hX2 : d.extract 1 d.size = x2)
    (HOZ : Hid (∀ w : World, Calls Tryz.prog 92 #[.string x2] w fun r w' => r = .returned (.string oz) ∧ w' = w)) (HIT : Hid (∀ W, Below w.heap.size w W → Calls Tryz.prog 93 #[.int .i64 (k - 1)] W fun r w' => r = .returned (.string it) ∧ Below W.heap.size W w'))
    (ha : ∀ w, (Op.stringOp .add x1 ⟨#[46]⟩).run Tryz.prog w = .ok (.string s1) w) (hb : ∀ w, (Op.stringOp .add s1 oz).run Tryz.prog w = .ok (.string s2) w) (hc : ∀ w, (Op.stringOp .add s2 ⟨#[101]⟩).run Tryz.prog w = .ok (.string s3) w) (hd : ∀ w, (Op.stringOp .add s3 it).run Tryz.prog w = .ok (.string s4) w) :
    Calls Tryz.prog 77 #[.string d, .int .i64 k] w fun r w' => r = .returned (.string s4) ∧ Below w.heap.size w w' := by
  have hw : IntKind.i64.wrap (k - 1) = k - 1 := IntWalk.i64_in _ (by omega)
  have hszi : (1 : Int) ≤ (d.size : Int) := by omega
  go_enter Tryz.func77, Tryz.ntmps77
  go_wp2_with fail
  go_region_with (first
    | (go_at_call 92; ((with_reducible refine (HOZ.out _).mono ?_); rintro r wq ⟨rfl, rfl⟩))
    | (go_at_call 93; ((with_reducible refine (HIT.out _ (by repeat (first | with_reducible exact HBB.out | with_reducible exact Below.refl _ _ | with_reducible refine Below.drew ?_ | with_reducible refine belowN ?_ _ | with_reducible refine Below.setCell ?_ (by first | omega | (simp; done) | (simp; omega)) _ | with_reducible refine Below.alloc ?_ (by first | omega | (simp; done) | (simp; omega)) _))).mono ?_); rintro r wq ⟨rfl, hbq⟩; have HBQ := Lib.hid ((by repeat (first | with_reducible exact HBB.out | with_reducible exact Below.refl _ _ | with_reducible refine Below.drew ?_ | with_reducible refine belowN ?_ _ | with_reducible refine Below.setCell ?_ (by first | omega | (simp; done) | (simp; omega)) _ | with_reducible refine Below.alloc ?_ (by first | omega | (simp; done) | (simp; omega)) _) : Below w.heap.size w _).trans (hbq.mono (by simp))); clear hbq)))
  all_goals go_wp2_with fail
  all_goals go_ret
  all_goals exact ⟨rfl, by first | exact HBQ.out | exact HBQ.out.drew⟩

set_option maxRecDepth 100000 in
set_option maxHeartbeats 1600000 in
set_option maxHeartbeats 1600000 in
theorem pr_hi (d x1 x2 oz it s1 s2 s3 s4 : ByteArray) (k : Int) (w : World) (hk1 : ¬ k < -3) (hk2 : 9 < k) (hk8 : -100000 ≤ k) (hk9 : k ≤ 100000) (hsz : 1 ≤ d.size) (hX1 : d.extract 0 1 = x1) (hX2 : d.extract 1 d.size = x2)
    (HOZ : Hid (∀ w : World, Calls Tryz.prog 92 #[.string x2] w fun r w' => r = .returned (.string oz) ∧ w' = w)) (HIT : Hid (∀ W, Below w.heap.size w W → Calls Tryz.prog 93 #[.int .i64 (k - 1)] W fun r w' => r = .returned (.string it) ∧ Below W.heap.size W w'))
    (ha : ∀ w, (Op.stringOp .add x1 ⟨#[46]⟩).run Tryz.prog w = .ok (.string s1) w) (hb : ∀ w, (Op.stringOp .add s1 oz).run Tryz.prog w = .ok (.string s2) w) (hc : ∀ w, (Op.stringOp .add s2 ⟨#[101]⟩).run Tryz.prog w = .ok (.string s3) w) (hd : ∀ w, (Op.stringOp .add s3 it).run Tryz.prog w = .ok (.string s4) w) :
    Calls Tryz.prog 77 #[.string d, .int .i64 k] w fun r w' => r = .returned (.string s4) ∧ Below w.heap.size w w' := by
  have hw : IntKind.i64.wrap (k - 1) = k - 1 := IntWalk.i64_in _ (by omega)
  have hszi : (1 : Int) ≤ (d.size : Int) := by omega
  go_enter Tryz.func77, Tryz.ntmps77
  go_wp2_with fail
  go_region_with (first
    | (go_at_call 92; ((with_reducible refine (HOZ.out _).mono ?_); rintro r wq ⟨rfl, rfl⟩))
    | (go_at_call 93; ((with_reducible refine (HIT.out _ (by repeat (first | with_reducible exact HBB.out | with_reducible exact Below.refl _ _ | with_reducible refine Below.drew ?_ | with_reducible refine belowN ?_ _ | with_reducible refine Below.setCell ?_ (by first | omega | (simp; done) | (simp; omega)) _ | with_reducible refine Below.alloc ?_ (by first | omega | (simp; done) | (simp; omega)) _))).mono ?_); rintro r wq ⟨rfl, hbq⟩; have HBQ := Lib.hid ((by repeat (first | with_reducible exact HBB.out | with_reducible exact Below.refl _ _ | with_reducible refine Below.drew ?_ | with_reducible refine belowN ?_ _ | with_reducible refine Below.setCell ?_ (by first | omega | (simp; done) | (simp; omega)) _ | with_reducible refine Below.alloc ?_ (by first | omega | (simp; done) | (simp; omega)) _) : Below w.heap.size w _).trans (hbq.mono (by simp))); clear hbq)))
  all_goals go_wp2_with fail
  all_goals go_ret
  all_goals exact ⟨rfl, by first | exact HBQ.out | exact HBQ.out.drew⟩

set_option maxRecDepth 100000 in
set_option maxHeartbeats 1600000 in
set_option maxHeartbeats 1600000 in
theorem pr_z (d rp s1 s2 : ByteArray) (k : Int) (w : World) (hk1 : ¬ k < -3) (hk2 : ¬ 9 < k) (hk3 : k < 1) (HRP : Hid (∀ W : World, Calls Tryz.prog 94 #[.string ⟨#[48]⟩, .int .i64 (-k)] W fun r w' => r = .returned (.string rp) ∧ Below W.heap.size W w')) (ha : ∀ w, (Op.stringOp .add ⟨#[48, 46]⟩ rp).run Tryz.prog w = .ok (.string s1) w) (hb : ∀ w, (Op.stringOp .add s1 d).run Tryz.prog w = .ok (.string s2) w) :
    Calls Tryz.prog 77 #[.string d, .int .i64 k] w fun r w' => r = .returned (.string s2) ∧ Below w.heap.size w w' := by
  have hw : wrap64 (-k) = -k := wrap_in _ (by omega) (by omega)
  go_enter Tryz.func77, Tryz.ntmps77
  go_wp2_with fail
  refine (HRP.out _).mono ?_
  rintro r w1 ⟨rfl, hb1⟩
  go_wp2_with fail
  go_ret
  exact ⟨rfl, hb1⟩

set_option maxRecDepth 100000 in
set_option maxHeartbeats 1600000 in
set_option maxHeartbeats 1600000 in
theorem pr_s (d rp s1 s2 : ByteArray) (k : Int) (w : World) (hk1 : ¬ k < -3) (hk2 : ¬ 9 < k) (hk3 : ¬ k < 1) (hk4 : (d.size : Int) < k) (HRP : Hid (∀ W : World, Calls Tryz.prog 94 #[.string ⟨#[48]⟩, .int .i64 (k - (d.size : Int))] W fun r w' => r = .returned (.string rp) ∧ Below W.heap.size W w')) (ha : ∀ w, (Op.stringOp .add d rp).run Tryz.prog w = .ok (.string s1) w) (hb : ∀ w, (Op.stringOp .add s1 ⟨#[46, 48]⟩).run Tryz.prog w = .ok (.string s2) w) :
    Calls Tryz.prog 77 #[.string d, .int .i64 k] w fun r w' => r = .returned (.string s2) ∧ Below w.heap.size w w' := by
  have hw : wrap64 (k - (d.size : Int)) = k - (d.size : Int) := wrap_in _ (by omega) (by omega)
  go_enter Tryz.func77, Tryz.ntmps77
  go_wp2_with fail
  refine (HRP.out _).mono ?_
  rintro r w1 ⟨rfl, hb1⟩
  go_wp2_with fail
  go_ret
  exact ⟨rfl, hb1⟩

set_option maxRecDepth 100000 in
set_option maxHeartbeats 1600000 in
set_option maxHeartbeats 1600000 in
theorem pr_m (d x1 x2 oz s1 s2 : ByteArray) (k : Nat) (w : World) (hk2 : ¬ (9 : Int) < (k : Int)) (hk3 : ¬ (k : Int) < 1) (hk4 : ¬ (d.size : Int) < (k : Int)) (hk5 : k ≤ d.size) (hX1 : d.extract 0 k = x1) (hX2 : d.extract k d.size = x2)
    (HOZ : Hid (∀ w : World, Calls Tryz.prog 92 #[.string x2] w fun r w' => r = .returned (.string oz) ∧ w' = w)) (ha : ∀ w, (Op.stringOp .add x1 ⟨#[46]⟩).run Tryz.prog w = .ok (.string s1) w) (hb : ∀ w, (Op.stringOp .add s1 oz).run Tryz.prog w = .ok (.string s2) w) :
    Calls Tryz.prog 77 #[.string d, .int .i64 (k : Int)] w fun r w' => r = .returned (.string s2) ∧ Below w.heap.size w w' := by
  have hk1 : ¬ (k : Int) < -3 := by omega
  have hk6 : (k : Int) ≤ (d.size : Int) := by omega
  go_enter Tryz.func77, Tryz.ntmps77
  go_wp2_with fail
  go_region_with (first
    | (go_at_call 92; ((with_reducible refine (HOZ.out _).mono ?_); rintro r wq ⟨rfl, rfl⟩)))
  all_goals go_wp2_with fail
  all_goals go_ret
  all_goals exact ⟨rfl, by repeat (first | with_reducible exact HBB.out | with_reducible exact Below.refl _ _ | with_reducible refine Below.drew ?_ | with_reducible refine belowN ?_ _ | with_reducible refine Below.setCell ?_ (by first | omega | (simp; done) | (simp; omega)) _ | with_reducible refine Below.alloc ?_ (by first | omega | (simp; done) | (simp; omega)) _)⟩

/-- the string of the number 0.d times 10^k -/
def prL (d : List UInt8) (k : Int) : List UInt8 :=
  if k < -3 ∨ 9 < k then d.take 1 ++ [46] ++ ozL (d.drop 1) ++ [101] ++ Lib.itoa (k - 1)
  else if k < 1 then [48, 46] ++ List.replicate (-k).toNat 48 ++ d
  else if (d.length : Int) < k then d ++ List.replicate (k - (d.length : Int)).toNat 48 ++ [46, 48]
  else d.take k.toNat ++ [46] ++ ozL (d.drop k.toNat)

theorem bs_cut (d : List UInt8) (n : Nat) : (bs d).extract n (bs d).size = bs (d.drop n) := by
  rw [Lib.extract_mk, List.take_of_length_le (by rw [bs_size]; simp)]

theorem ozL_len (l : List UInt8) : (ozL l).length ≤ l.length + 1 := by unfold ozL; split <;> simp

set_option maxRecDepth 100000 in
theorem pr_any (d : List UInt8) (k : Int) (w : World) (ht : TabQ w) (hd : 1 ≤ d.length) (hl : d.length ≤ 1000) (hk8 : -100000 ≤ k) (hk9 : k ≤ 100000) (hit : (Lib.itoa (k - 1)).length ≤ 1000) :
    Calls Tryz.prog 77 #[.string (bs d), .int .i64 k] w fun r w' => r = .returned (.string (bs (prL d k))) ∧ Below w.heap.size w w' := by
  unfold prL
  have hoz := ozL_len (d.drop 1)
  have hdl := List.length_drop (l := d) (i := 1)
  have htk := List.length_take_le 1 d
  by_cases hc : k < -3 ∨ 9 < k
  · rw [if_pos hc]
    have HIT : Hid (∀ W, Below w.heap.size w W → Calls Tryz.prog 93 #[.int .i64 (k - 1)] W fun r w' => r = .returned (.string (bs (Lib.itoa (k - 1)))) ∧ Below W.heap.size W w') := Lib.hid (fun W hW => it_any (k - 1) W (by omega) (by omega) (ht.kept hW))
    have HOZ := Lib.hid (fun w : World => oz_any (d.drop 1) w)
    have ha := add_run (d.take 1) [46] (by simp only [List.length_cons, List.length_nil]; omega)
    have hb := add_run (d.take 1 ++ [46]) (ozL (d.drop 1)) (by simp only [List.length_append, List.length_cons, List.length_nil]; omega)
    have hc' := add_run (d.take 1 ++ [46] ++ ozL (d.drop 1)) [101] (by simp only [List.length_append, List.length_cons, List.length_nil]; omega)
    have hd' := add_run (d.take 1 ++ [46] ++ ozL (d.drop 1) ++ [101]) (Lib.itoa (k - 1)) (by simp only [List.length_append, List.length_cons, List.length_nil]; omega)
    by_cases h3 : k < -3
    · exact pr_lo (bs d) _ _ _ _ _ _ _ _ k w h3 hk8 hk9 (by rw [bs_size]; exact hd) (bs_take d 1) (bs_cut d 1) HOZ HIT ha hb hc' hd'
    · exact pr_hi (bs d) _ _ _ _ _ _ _ _ k w h3 (by omega) hk8 hk9 (by rw [bs_size]; exact hd) (bs_take d 1) (bs_cut d 1) HOZ HIT ha hb hc' hd'
  · rw [if_neg hc]
    by_cases h1 : k < 1
    · rw [if_pos h1]
      have HRP : Hid (∀ W : World, Calls Tryz.prog 94 #[.string ⟨#[48]⟩, .int .i64 (-k)] W fun r w' => r = .returned (.string (bs (List.replicate (-k).toNat 48))) ∧ Below W.heap.size W w') := Lib.hid (fun W => by
        have := rep_any (-k).toNat W (by omega)
        rwa [show (((-k).toNat : Nat) : Int) = -k from by omega] at this)
      exact pr_z (bs d) _ _ _ k w (by omega) (by omega) h1 HRP (add_run [48, 46] _ (by simp only [List.length_cons, List.length_nil, List.length_replicate]; omega)) (add_run _ d (by simp only [List.length_append, List.length_cons, List.length_nil, List.length_replicate]; omega))
    · rw [if_neg h1]
      by_cases h2 : (d.length : Int) < k
      · rw [if_pos h2]
        have HRP : Hid (∀ W : World, Calls Tryz.prog 94 #[.string ⟨#[48]⟩, .int .i64 (k - ((bs d).size : Int))] W fun r w' => r = .returned (.string (bs (List.replicate (k - (d.length : Int)).toNat 48))) ∧ Below W.heap.size W w') := Lib.hid (fun W => by
          have := rep_any (k - (d.length : Int)).toNat W (by omega)
          rwa [show (((k - (d.length : Int)).toNat : Nat) : Int) = k - ((bs d).size : Int) from by rw [bs_size]; omega] at this)
        exact pr_s (bs d) _ _ _ k w (by omega) (by omega) h1 (by rw [bs_size]; exact h2) HRP (add_run d _ (by simp only [List.length_replicate]; omega)) (add_run _ [46, 48] (by simp only [List.length_append, List.length_cons, List.length_nil, List.length_replicate]; omega))
      · rw [if_neg h2]
        obtain ⟨n, rfl⟩ : ∃ n : Nat, k = (n : Int) := ⟨k.toNat, by omega⟩
        rw [show ((n : Int)).toNat = n from by omega]
        have hoz2 := ozL_len (d.drop n)
        have hdl2 := List.length_drop (l := d) (i := n)
        have htk2 := List.length_take_le n d
        exact pr_m (bs d) _ _ _ _ _ n w (by omega) (by omega) (by rw [bs_size]; omega) (by rw [bs_size]; omega) (bs_take d n) (bs_cut d n) (Lib.hid (fun w : World => oz_any (d.drop n) w)) (add_run (d.take n) [46] (by simp only [List.length_cons, List.length_nil]; omega)) (add_run _ (ozL (d.drop n)) (by simp only [List.length_append, List.length_cons, List.length_nil]; omega))

end Go.Proofs.YtbfknapmhkpgcaaGreatDoor
