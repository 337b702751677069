/-
  PACKAGE real: shortest.
-/
import Derived.Test.YtbfknapmhkpgcaaGreatDoorDig7

namespace Go.Proofs.YtbfknapmhkpgcaaGreatDoor
open Go.RowKit
set_option linter.unusedVariables false

/-- the search of shortest: from a length on, so many lengths at most -/
def shG (d : List UInt8) (k m e : Int) : Nat → Nat → Option (List UInt8 × Int)
  | 0, _ => none
  | f + 1, n => if n < d.length then
      if drM (nb1 d n) (k - n) = m ∧ drE (nb1 d n) (k - n) = e then some (Lib.trimRightB (Lib.itoa (nb1 d n)) 48, k + (Lib.itoa (nb1 d n)).length - n)
      else if drM (nb2 d n) (k - n) = m ∧ drE (nb2 d n) (k - n) = e then some (Lib.trimRightB (Lib.itoa (nb2 d n)) 48, k + (Lib.itoa (nb2 d n)).length - n)
      else shG d k m e f (n + 1)
    else some (d, k)

set_option maxRecDepth 100000 in
set_option maxHeartbeats 1600000 in
set_option maxHeartbeats 4000000 in
theorem sh_w (m e k : Int) (d : List UInt8) (f : Nat) (r : List UInt8 × Int) (w : World) (hf : f ≤ 18) (hk1 : -1000 ≤ k) (hk2 : k ≤ 1000) (hdl : d.length ≤ 1000) (hr : shG d k m e f 1 = some r)
    (HDEC : Hid (∀ W, Below w.heap.size w W → Calls Tryz.prog 95 #[realV m e] W fun r w' => r = .returned (.tuple #[.string (bs d), .int .i64 k]) ∧ Below W.heap.size W w'))
    (HNB : Hid (∀ (n : Nat) (W : World), 1 ≤ n → n < d.length → n ≤ 18 → Calls Tryz.prog 96 #[.string (bs d), .int .i64 (n : Int)] W fun r w' => r = .returned (.agg #[.int .i64 (nb1 d n : Int), .int .i64 (nb2 d n : Int)]) ∧ Below W.heap.size W w'))
    (HDR1 : Hid (∀ (n : Nat) (W : World), 1 ≤ n → n < d.length → n ≤ 18 → Below w.heap.size w W → Calls Tryz.prog 97 #[.int .i64 (nb1 d n : Int), .int .i64 (k - (n : Int))] W fun r w' => r = .returned (realV (drM (nb1 d n) (k - n)) (drE (nb1 d n) (k - n))) ∧ Below W.heap.size W w')) (HDR2 : Hid (∀ (n : Nat) (W : World), 1 ≤ n → n < d.length → n ≤ 18 → Below w.heap.size w W → Calls Tryz.prog 97 #[.int .i64 (nb2 d n : Int), .int .i64 (k - (n : Int))] W fun r w' => r = .returned (realV (drM (nb2 d n) (k - n)) (drE (nb2 d n) (k - n))) ∧ Below W.heap.size W w')) (HIT1 : Hid (∀ (n : Nat) (W : World), 1 ≤ n → n < d.length → n ≤ 18 → Below w.heap.size w W → Calls Tryz.prog 93 #[.int .i64 (nb1 d n : Int)] W fun r w' => r = .returned (.string (bs (Lib.itoa (nb1 d n)))) ∧ Below W.heap.size W w')) (HIL1 : Hid (∀ n : Nat, 1 ≤ n → n < d.length → n ≤ 18 → (Lib.itoa (nb1 d n)).length ≤ 100)) (HIT2 : Hid (∀ (n : Nat) (W : World), 1 ≤ n → n < d.length → n ≤ 18 → Below w.heap.size w W → Calls Tryz.prog 93 #[.int .i64 (nb2 d n : Int)] W fun r w' => r = .returned (.string (bs (Lib.itoa (nb2 d n)))) ∧ Below W.heap.size W w')) (HIL2 : Hid (∀ n : Nat, 1 ≤ n → n < d.length → n ≤ 18 → (Lib.itoa (nb2 d n)).length ≤ 100))
    (HTR : Hid (∀ (l : List UInt8) (W : World), l.length ≤ 100 → Calls Tryz.prog 98 #[.string (bs l), .string ⟨#[48]⟩] W fun r w' => r = .returned (.string (bs (Lib.trimRightB l 48))) ∧ w' = W)) :
    Calls Tryz.prog 78 #[realV m e] w (fun q w' => q = .returned (.tuple #[.string (bs r.1), .int .i64 r.2]) ∧ Below w.heap.size w w') := by
  have HSH := Lib.hid hr
  have hbs : (bs d).size = d.length := bs_size d
  clear hr
  have ix0 : ∀ (x y : Int) (w : World), (Instr.index 100 (.agg #[.int .i64 x, .int .i64 y]) (.int .i64 0)).run Tryz.prog w = .ok (.int .i64 x) w := fun _ _ _ => by kernel_rfl
  have ix1 : ∀ (x y : Int) (w : World), (Instr.index 100 (.agg #[.int .i64 x, .int .i64 y]) (.int .i64 1)).run Tryz.prog w = .ok (.int .i64 y) w := fun _ _ _ => by kernel_rfl
  go_enter Tryz.func78, Tryz.ntmps78
  go_wp2_with fail
  refine (HDEC.out _ (by repeat (first | with_reducible exact HBB.out | with_reducible exact Below.refl _ _ | with_reducible refine Below.drew ?_ | with_reducible refine belowN ?_ _ | with_reducible refine Below.setCell ?_ (by first | omega | (simp; done) | (simp; omega)) _ | with_reducible refine Below.alloc ?_ (by first | omega | (simp; done) | (simp; omega)) _))).mono ?_
  rintro q w1 ⟨rfl, hb1⟩
  have c0_0 : w1.cell? ⟨w.heap.size, 0, none⟩ = some (.int .i64 m) := carry hb1 (by first | with_reducible assumption | go_simp)
  have c0_1 : w1.cell? ⟨w.heap.size, 1, none⟩ = some (.int .i64 e) := carry hb1 (by first | with_reducible assumption | go_simp)
  have z0 : w.heap.size < w1.heap.size := by have := hb1.size; first | omega | (simp at this; omega)
  have HBB := Lib.hid ((by repeat (first | with_reducible exact Below.refl _ _ | with_reducible refine Below.setCell ?_ (by first | omega | (simp; done) | (simp; omega)) _ | with_reducible refine Below.drew ?_ | with_reducible refine belowN ?_ _ | with_reducible refine Below.alloc ?_ (by first | omega | (simp; done) | (simp; omega)) _) : Below w.heap.size w _).trans (hb1.mono (by first | omega | (simp; done) | (simp; omega))))
  clear hb1
  go_wp2_with fail
  go_loopw [2, 3, 4] (fun sd kd i wr => ∃ (n g : Nat), sd = .string (bs d) ∧ kd = .int .i64 k ∧ i = .int .i64 (n : Int) ∧ 1 ≤ n ∧ n + g ≤ 19 ∧ shG d k m e g n = some r ∧ wr.cell? ⟨w.heap.size, 0, none⟩ = some (.int .i64 m) ∧ wr.cell? ⟨w.heap.size, 1, none⟩ = some (.int .i64 e) ∧ w.heap.size < wr.heap.size ∧ Below w.heap.size w wr) (fun _ _ i _ => d.length - (intOf i).toNat)
  case atStart => exact ⟨1, f, rfl, rfl, rfl, by omega, by omega, HSH.out, c0_0, c0_1, z0, HBB.out⟩
  case round =>
    obtain ⟨n, g, rfl, rfl, rfl, hn1, hng, hsh, y0, y1, yz, yb⟩ := hrel
    have HBW := Lib.hid yb
    have HG := Lib.hid hsh
    clear yb hsh c0_0 c0_1 z0 HSH HBB
    have hni : (1 : Int) ≤ (n : Int) := by omega
    by_cases hnl : n < d.length
    · obtain ⟨g, rfl⟩ : ∃ g', g = g' + 1 := by
        cases g with
        | zero => exact absurd HG.out (by simp [shG])
        | succ g => exact ⟨g, rfl⟩
      have hn18 : n ≤ 18 := by omega
      have hg2 := HG.out
      rw [shG, if_pos hnl] at hg2
      have HG2 := Lib.hid hg2
      have hlt : (n : Int) < ((bs d).size : Int) := by rw [hbs]; omega
      clear hg2 HG
      go_wp2_with fail
      refine (HNB.out n _ hn1 hnl hn18).mono ?_
      rintro q w2 ⟨rfl, hb2⟩
      have y0 := carry hb2 y0
      have y1 := carry hb2 y1
      have yz := Nat.lt_of_lt_of_le yz hb2.size
      have HBW := Lib.hid (HBW.out.trans (hb2.mono (by omega)))
      have hwk : IntKind.i64.wrap (k - (n : Int)) = k - (n : Int) := IntWalk.i64_in _ (by omega)
      clear hb2
      rename_i wo _
      go_wp2_with fail
      go_loopw [2, 3, 22] (fun sd kd j wr => ∃ (i : Nat), sd = .string (bs d) ∧ kd = .int .i64 k ∧ j = .int .i64 (i : Int) ∧ i ≤ 2 ∧ (1 ≤ i → ¬ (drM (nb1 d n) (k - n) = m ∧ drE (nb1 d n) (k - n) = e)) ∧ (2 ≤ i → ¬ (drM (nb2 d n) (k - n) = m ∧ drE (nb2 d n) (k - n) = e)) ∧ wr.cell? ⟨w.heap.size, 0, none⟩ = some (.int .i64 m) ∧ wr.cell? ⟨w.heap.size, 1, none⟩ = some (.int .i64 e) ∧ w.heap.size < wr.heap.size ∧ Below w.heap.size w wr) (fun _ _ j _ => 2 - (intOf j).toNat)
      case atStart => exact ⟨0, rfl, rfl, rfl, by omega, by omega, by omega, y0, y1, yz, HBW.out⟩
      case round =>
        obtain ⟨i, rfl, rfl, rfl, hi2, hne1, hne2, x0, x1, xz, xb⟩ := hrel
        have HBW := Lib.hid xb
        have HN1 := Lib.hid hne1
        have HN2 := Lib.hid hne2
        clear xb hne1 hne2 y0 y1 yz
        have hi3 : i = 0 ∨ i = 1 ∨ i = 2 := by omega
        rcases hi3 with rfl | rfl | rfl
        · have hix := ix0
          by_cases hA : drM (nb1 d n) (k - n) = m ∧ drE (nb1 d n) (k - n) = e
          · have HD : Hid (∀ W, Below w.heap.size w W → Calls Tryz.prog 97 #[.int .i64 (nb1 d n : Int), .int .i64 (k - (n : Int))] W fun r w' => r = .returned (realV m e) ∧ Below W.heap.size W w') := Lib.hid (fun W hW => by have := HDR1.out n W hn1 hnl hn18 hW; rwa [hA.1, hA.2] at this)
            have HRR := Lib.hid (show (Lib.trimRightB (Lib.itoa (nb1 d n)) 48, k + ((Lib.itoa (nb1 d n)).length : Int) - (n : Int)) = r from by have := HG2.out; rw [if_pos hA] at this; exact Option.some.inj this)
            have HI : Hid (∀ W, Below w.heap.size w W → Calls Tryz.prog 93 #[.int .i64 (nb1 d n : Int)] W fun r w' => r = .returned (.string (bs (Lib.itoa (nb1 d n)))) ∧ Below W.heap.size W w') := Lib.hid (fun W hW => HIT1.out n W hn1 hnl hn18 hW)
            have hil := HIL1.out n hn1 hnl hn18
            generalize Lib.itoa (nb1 d n) = tx at HRR HI hil
            clear hA
            have htx : (bs tx).size = tx.length := bs_size tx
            have hw1 : IntKind.i64.wrap (k + (tx.length : Int)) = k + (tx.length : Int) := IntWalk.i64_in _ (by omega)
            have hw2 : IntKind.i64.wrap (k + (tx.length : Int) - (n : Int)) = k + (tx.length : Int) - (n : Int) := IntWalk.i64_in _ (by omega)
            go_wp2_with fail
            have HB0 := HBW
            go_region_held3 (fun wx => wx.cell? ⟨w.heap.size, 0, none⟩ = some (.int .i64 m) ∧ wx.cell? ⟨w.heap.size, 1, none⟩ = some (.int .i64 e) ∧ w.heap.size < wx.heap.size ∧ Below w.heap.size w wx) (first | (go_keep; done) | ((try go_split_ands); (repeat' apply And.intro) <;> first | with_reducible assumption | (exact carry hbq (by with_reducible assumption)) | (exact carryF hbq (by with_reducible assumption) (by with_reducible assumption)) | (go_simp; done) | (simp only [World.size_alloc, World.size_drew]; omega) | (with_reducible exact HB0.out.drew) | (with_reducible exact HB0.out) | (with_reducible exact Below.drew (by with_reducible assumption)) | (exact Nat.lt_of_lt_of_le (by first | with_reducible assumption | (simp <;> omega)) hbq.size) | (simp <;> omega) | (exact Below.trans (by with_reducible assumption) (hbq.mono (by first | omega | (simp <;> omega))))))
              (first | (go_at_call 97; ((with_reducible refine (HD.out _ (by first | with_reducible exact HBW.out | with_reducible exact HBW.out.drew)).mono ?_); rintro r wq ⟨rfl, hbq⟩)))
            rename _ ∧ _ ∧ _ ∧ Below w.heap.size w _ => hS
            obtain ⟨x0, x1, xz, xb⟩ := hS
            have HXB := Lib.hid xb
            clear xb
            go_wp2_with fail
            refine (HI.out _ HXB.out).mono ?_
            rintro q w3 ⟨rfl, hb3⟩
            have HB3 := Lib.hid (HXB.out.trans (hb3.mono (by omega)))
            clear hb3 x0 x1 xz
            go_wp2_with fail
            refine (HTR.out tx _ hil).mono ?_
            rintro q w4 ⟨rfl, rfl⟩
            go_wp2_with fail
            go_ret2
            exact ⟨by rw [← HRR.out]; first | rfl | simp, HB3.out⟩
          · have HNE := Lib.hid hA
            obtain ⟨a, ha⟩ : ∃ a, a = drM (nb1 d n) (k - n) := ⟨_, rfl⟩
            obtain ⟨b, hb⟩ : ∃ b, b = drE (nb1 d n) (k - n) := ⟨_, rfl⟩
            have HD : Hid (∀ W, Below w.heap.size w W → Calls Tryz.prog 97 #[.int .i64 (nb1 d n : Int), .int .i64 (k - (n : Int))] W fun r w' => r = .returned (realV a b) ∧ Below W.heap.size W w') := Lib.hid (fun W hW => by have := HDR1.out n W hn1 hnl hn18 hW; rwa [← ha, ← hb] at this)
            rw [← ha, ← hb] at hA
            clear ha hb
            by_cases ham : a = m
            · have hbe : ¬ b = e := fun q => hA ⟨ham, q⟩
              have ham' := ham.symm
              subst ham'
              clear hA
              go_wp2_with fail
              have HB0 := HBW
              go_region_held3 (fun wx => wx.cell? ⟨w.heap.size, 0, none⟩ = some (.int .i64 m) ∧ wx.cell? ⟨w.heap.size, 1, none⟩ = some (.int .i64 e) ∧ w.heap.size < wx.heap.size ∧ Below w.heap.size w wx) (first | (go_keep; done) | ((try go_split_ands); (repeat' apply And.intro) <;> first | with_reducible assumption | (exact carry hbq (by with_reducible assumption)) | (exact carryF hbq (by with_reducible assumption) (by with_reducible assumption)) | (go_simp; done) | (simp only [World.size_alloc, World.size_drew]; omega) | (with_reducible exact HB0.out.drew) | (with_reducible exact HB0.out) | (with_reducible exact Below.drew (by with_reducible assumption)) | (exact Nat.lt_of_lt_of_le (by first | with_reducible assumption | (simp <;> omega)) hbq.size) | (simp <;> omega) | (exact Below.trans (by with_reducible assumption) (hbq.mono (by first | omega | (simp <;> omega))))))
                (first | (go_at_call 97; ((with_reducible refine (HD.out _ (by first | with_reducible exact HBW.out | with_reducible exact HBW.out.drew)).mono ?_); rintro r wq ⟨rfl, hbq⟩)))
              rename _ ∧ _ ∧ _ ∧ Below w.heap.size w _ => hS
              obtain ⟨x0, x1, xz, xb⟩ := hS
              have HXB := Lib.hid xb
              clear xb
              go_wp2_with fail
              exact ⟨⟨1, rfl, rfl, by rfl, by omega, fun _ => HNE.out, by omega, x0, x1, xz, HXB.out⟩, by simp [intOf]⟩
            · clear hA
              go_wp2_with fail
              have HB0 := HBW
              go_region_held3 (fun wx => wx.cell? ⟨w.heap.size, 0, none⟩ = some (.int .i64 m) ∧ wx.cell? ⟨w.heap.size, 1, none⟩ = some (.int .i64 e) ∧ w.heap.size < wx.heap.size ∧ Below w.heap.size w wx) (first | (go_keep; done) | ((try go_split_ands); (repeat' apply And.intro) <;> first | with_reducible assumption | (exact carry hbq (by with_reducible assumption)) | (exact carryF hbq (by with_reducible assumption) (by with_reducible assumption)) | (go_simp; done) | (simp only [World.size_alloc, World.size_drew]; omega) | (with_reducible exact HB0.out.drew) | (with_reducible exact HB0.out) | (with_reducible exact Below.drew (by with_reducible assumption)) | (exact Nat.lt_of_lt_of_le (by first | with_reducible assumption | (simp <;> omega)) hbq.size) | (simp <;> omega) | (exact Below.trans (by with_reducible assumption) (hbq.mono (by first | omega | (simp <;> omega))))))
                (first | (go_at_call 97; ((with_reducible refine (HD.out _ (by first | with_reducible exact HBW.out | with_reducible exact HBW.out.drew)).mono ?_); rintro r wq ⟨rfl, hbq⟩)))
              rename _ ∧ _ ∧ _ ∧ Below w.heap.size w _ => hS
              obtain ⟨x0, x1, xz, xb⟩ := hS
              have HXB := Lib.hid xb
              clear xb
              go_wp2_with fail
              exact ⟨⟨1, rfl, rfl, by rfl, by omega, fun _ => HNE.out, by omega, x0, x1, xz, HXB.out⟩, by simp [intOf]⟩
        · have hix := ix1
          by_cases hA : drM (nb2 d n) (k - n) = m ∧ drE (nb2 d n) (k - n) = e
          · have HD : Hid (∀ W, Below w.heap.size w W → Calls Tryz.prog 97 #[.int .i64 (nb2 d n : Int), .int .i64 (k - (n : Int))] W fun r w' => r = .returned (realV m e) ∧ Below W.heap.size W w') := Lib.hid (fun W hW => by have := HDR2.out n W hn1 hnl hn18 hW; rwa [hA.1, hA.2] at this)
            have HRR := Lib.hid (show (Lib.trimRightB (Lib.itoa (nb2 d n)) 48, k + ((Lib.itoa (nb2 d n)).length : Int) - (n : Int)) = r from by have := HG2.out; rw [if_neg (HN1.out (by omega)), if_pos hA] at this; exact Option.some.inj this)
            have HI : Hid (∀ W, Below w.heap.size w W → Calls Tryz.prog 93 #[.int .i64 (nb2 d n : Int)] W fun r w' => r = .returned (.string (bs (Lib.itoa (nb2 d n)))) ∧ Below W.heap.size W w') := Lib.hid (fun W hW => HIT2.out n W hn1 hnl hn18 hW)
            have hil := HIL2.out n hn1 hnl hn18
            generalize Lib.itoa (nb2 d n) = tx at HRR HI hil
            clear hA
            have htx : (bs tx).size = tx.length := bs_size tx
            have hw1 : IntKind.i64.wrap (k + (tx.length : Int)) = k + (tx.length : Int) := IntWalk.i64_in _ (by omega)
            have hw2 : IntKind.i64.wrap (k + (tx.length : Int) - (n : Int)) = k + (tx.length : Int) - (n : Int) := IntWalk.i64_in _ (by omega)
            go_wp2_with fail
            have HB0 := HBW
            go_region_held3 (fun wx => wx.cell? ⟨w.heap.size, 0, none⟩ = some (.int .i64 m) ∧ wx.cell? ⟨w.heap.size, 1, none⟩ = some (.int .i64 e) ∧ w.heap.size < wx.heap.size ∧ Below w.heap.size w wx) (first | (go_keep; done) | ((try go_split_ands); (repeat' apply And.intro) <;> first | with_reducible assumption | (exact carry hbq (by with_reducible assumption)) | (exact carryF hbq (by with_reducible assumption) (by with_reducible assumption)) | (go_simp; done) | (simp only [World.size_alloc, World.size_drew]; omega) | (with_reducible exact HB0.out.drew) | (with_reducible exact HB0.out) | (with_reducible exact Below.drew (by with_reducible assumption)) | (exact Nat.lt_of_lt_of_le (by first | with_reducible assumption | (simp <;> omega)) hbq.size) | (simp <;> omega) | (exact Below.trans (by with_reducible assumption) (hbq.mono (by first | omega | (simp <;> omega))))))
              (first | (go_at_call 97; ((with_reducible refine (HD.out _ (by first | with_reducible exact HBW.out | with_reducible exact HBW.out.drew)).mono ?_); rintro r wq ⟨rfl, hbq⟩)))
            rename _ ∧ _ ∧ _ ∧ Below w.heap.size w _ => hS
            obtain ⟨x0, x1, xz, xb⟩ := hS
            have HXB := Lib.hid xb
            clear xb
            go_wp2_with fail
            refine (HI.out _ HXB.out).mono ?_
            rintro q w3 ⟨rfl, hb3⟩
            have HB3 := Lib.hid (HXB.out.trans (hb3.mono (by omega)))
            clear hb3 x0 x1 xz
            go_wp2_with fail
            refine (HTR.out tx _ hil).mono ?_
            rintro q w4 ⟨rfl, rfl⟩
            go_wp2_with fail
            go_ret2
            exact ⟨by rw [← HRR.out]; first | rfl | simp, HB3.out⟩
          · have HNE := Lib.hid hA
            obtain ⟨a, ha⟩ : ∃ a, a = drM (nb2 d n) (k - n) := ⟨_, rfl⟩
            obtain ⟨b, hb⟩ : ∃ b, b = drE (nb2 d n) (k - n) := ⟨_, rfl⟩
            have HD : Hid (∀ W, Below w.heap.size w W → Calls Tryz.prog 97 #[.int .i64 (nb2 d n : Int), .int .i64 (k - (n : Int))] W fun r w' => r = .returned (realV a b) ∧ Below W.heap.size W w') := Lib.hid (fun W hW => by have := HDR2.out n W hn1 hnl hn18 hW; rwa [← ha, ← hb] at this)
            rw [← ha, ← hb] at hA
            clear ha hb
            by_cases ham : a = m
            · have hbe : ¬ b = e := fun q => hA ⟨ham, q⟩
              have ham' := ham.symm
              subst ham'
              clear hA
              go_wp2_with fail
              have HB0 := HBW
              go_region_held3 (fun wx => wx.cell? ⟨w.heap.size, 0, none⟩ = some (.int .i64 m) ∧ wx.cell? ⟨w.heap.size, 1, none⟩ = some (.int .i64 e) ∧ w.heap.size < wx.heap.size ∧ Below w.heap.size w wx) (first | (go_keep; done) | ((try go_split_ands); (repeat' apply And.intro) <;> first | with_reducible assumption | (exact carry hbq (by with_reducible assumption)) | (exact carryF hbq (by with_reducible assumption) (by with_reducible assumption)) | (go_simp; done) | (simp only [World.size_alloc, World.size_drew]; omega) | (with_reducible exact HB0.out.drew) | (with_reducible exact HB0.out) | (with_reducible exact Below.drew (by with_reducible assumption)) | (exact Nat.lt_of_lt_of_le (by first | with_reducible assumption | (simp <;> omega)) hbq.size) | (simp <;> omega) | (exact Below.trans (by with_reducible assumption) (hbq.mono (by first | omega | (simp <;> omega))))))
                (first | (go_at_call 97; ((with_reducible refine (HD.out _ (by first | with_reducible exact HBW.out | with_reducible exact HBW.out.drew)).mono ?_); rintro r wq ⟨rfl, hbq⟩)))
              rename _ ∧ _ ∧ _ ∧ Below w.heap.size w _ => hS
              obtain ⟨x0, x1, xz, xb⟩ := hS
              have HXB := Lib.hid xb
              clear xb
              go_wp2_with fail
              exact ⟨⟨2, rfl, rfl, by rfl, by omega, fun _ => HN1.out (by omega), fun _ => HNE.out, x0, x1, xz, HXB.out⟩, by simp [intOf]⟩
            · clear hA
              go_wp2_with fail
              have HB0 := HBW
              go_region_held3 (fun wx => wx.cell? ⟨w.heap.size, 0, none⟩ = some (.int .i64 m) ∧ wx.cell? ⟨w.heap.size, 1, none⟩ = some (.int .i64 e) ∧ w.heap.size < wx.heap.size ∧ Below w.heap.size w wx) (first | (go_keep; done) | ((try go_split_ands); (repeat' apply And.intro) <;> first | with_reducible assumption | (exact carry hbq (by with_reducible assumption)) | (exact carryF hbq (by with_reducible assumption) (by with_reducible assumption)) | (go_simp; done) | (simp only [World.size_alloc, World.size_drew]; omega) | (with_reducible exact HB0.out.drew) | (with_reducible exact HB0.out) | (with_reducible exact Below.drew (by with_reducible assumption)) | (exact Nat.lt_of_lt_of_le (by first | with_reducible assumption | (simp <;> omega)) hbq.size) | (simp <;> omega) | (exact Below.trans (by with_reducible assumption) (hbq.mono (by first | omega | (simp <;> omega))))))
                (first | (go_at_call 97; ((with_reducible refine (HD.out _ (by first | with_reducible exact HBW.out | with_reducible exact HBW.out.drew)).mono ?_); rintro r wq ⟨rfl, hbq⟩)))
              rename _ ∧ _ ∧ _ ∧ Below w.heap.size w _ => hS
              obtain ⟨x0, x1, xz, xb⟩ := hS
              have HXB := Lib.hid xb
              clear xb
              go_wp2_with fail
              exact ⟨⟨2, rfl, rfl, by rfl, by omega, fun _ => HN1.out (by omega), fun _ => HNE.out, x0, x1, xz, HXB.out⟩, by simp [intOf]⟩
        · go_wp2_with fail
          exact ⟨⟨n + 1, g, rfl, rfl, by simp, by omega, by omega, by have := HG2.out; rwa [if_neg (HN1.out (by omega)), if_neg (HN2.out (by omega))] at this, x0, x1, xz, HBW.out⟩, by simp [intOf]; omega⟩
    · have HRR := Lib.hid (show (d, k) = r from by
        have := HG.out
        cases g with
        | zero => exact absurd this (by simp [shG])
        | succ g => rw [shG, if_neg hnl] at this; exact Option.some.inj this)
      have hlt : ¬ (n : Int) < ((bs d).size : Int) := by rw [hbs]; omega
      go_wp2_with fail
      go_ret2
      exact ⟨by rw [← HRR.out]; first | rfl | simp, HBW.out⟩

end Go.Proofs.YtbfknapmhkpgcaaGreatDoor
