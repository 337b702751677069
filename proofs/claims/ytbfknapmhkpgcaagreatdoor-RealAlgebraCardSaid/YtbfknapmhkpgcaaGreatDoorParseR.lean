/-
  PACKAGE real: Parse.
-/
import Derived.Test.YtbfknapmhkpgcaaGreatDoorNum4
import Derived.Test.YtbfknapmhkpgcaaGreatDoorReal16

namespace Go.Proofs.YtbfknapmhkpgcaaGreatDoor
open Go.RowKit
set_option linter.unusedVariables false

set_option maxRecDepth 100000 in
set_option maxHeartbeats 1600000 in
theorem ps_bad (s : ByteArray) (w : World) (HN : Hid (∀ w : World, Calls Tryz.prog 75 #[.string s] w fun q w' => q = .returned (.tuple #[.agg #[.bool false, .string ⟨#[]⟩, .int .i64 0], .bool false]) ∧ Below w.heap.size w w')) :
    Calls Tryz.prog 48 #[.string s] w fun r w' => r = .returned (rE 0 0 7) ∧ Below w.heap.size w w' := by
  go_enter Tryz.func48, Tryz.ntmps48
  go_wp2_with fail
  refine (HN.out _).mono ?_
  rintro r w1 ⟨rfl, hb1⟩
  have f0_0 : w1.frozen? ⟨w.heap.size, 0, none⟩ = false := carryF hb1 (v := .int .i64 0) (by first | with_reducible assumption | go_simp) (by first | with_reducible assumption | go_simp)
  have f0_1 : w1.frozen? ⟨w.heap.size, 1, none⟩ = false := carryF hb1 (v := .int .i64 0) (by first | with_reducible assumption | go_simp) (by first | with_reducible assumption | go_simp)
  have c0_0 : w1.cell? ⟨w.heap.size, 0, none⟩ = some (.int .i64 0) := carry hb1 (by first | with_reducible assumption | go_simp)
  have c0_1 : w1.cell? ⟨w.heap.size, 1, none⟩ = some (.int .i64 0) := carry hb1 (by first | with_reducible assumption | go_simp)
  have z0 : w.heap.size < w1.heap.size := by have := hb1.size; first | omega | (simp at this; omega)
  have HBB := Lib.hid ((by repeat (first | with_reducible exact Below.refl _ _ | with_reducible refine Below.setCell ?_ (by first | omega | (simp; done) | (simp; omega)) _ | with_reducible refine Below.drew ?_ | with_reducible refine belowN ?_ _ | with_reducible refine Below.alloc ?_ (by first | omega | (simp; done) | (simp; omega)) _) : Below w.heap.size w _).trans (hb1.mono (by first | omega | (simp; done) | (simp; omega))))
  clear hb1
  go_wp2_with fail
  refine bodyPost_ret (v := rE 0 0 7) (by simp [results, Tryz.results48, go_sem, c0_0, c0_1, z0]) rfl ⟨rfl, by repeat (first | with_reducible exact HBB.out | with_reducible exact Below.refl _ _ | with_reducible refine Below.drew ?_ | with_reducible refine belowN ?_ _ | with_reducible refine Below.setCell ?_ (by first | omega | (simp; done) | (simp; omega)) _ | with_reducible refine Below.alloc ?_ (by first | omega | (simp; done) | (simp; omega)) _)⟩

set_option maxRecDepth 100000 in
set_option maxHeartbeats 1600000 in
theorem ps_ok (s d : ByteArray) (t : Bool) (e a b c : Int) (w : World) (HN : Hid (∀ w : World, Calls Tryz.prog 75 #[.string s] w fun q w' => q = .returned (.tuple #[.agg #[.bool t, .string d, .int .i64 e], .bool true]) ∧ Below w.heap.size w w')) (HE : Hid (∀ W, Below w.heap.size w W → Calls Tryz.prog 52 #[.func (.func 76) #[.agg #[.bool t, .string d, .int .i64 e]] #[]] W fun q w' => q = .returned (rE a b c) ∧ Below W.heap.size W w')) :
    Calls Tryz.prog 48 #[.string s] w fun r w' => r = .returned (rE a b c) ∧ Below w.heap.size w w' := by
  go_enter Tryz.func48, Tryz.ntmps48
  go_wp2_with fail
  refine (HN.out _).mono ?_
  rintro r w1 ⟨rfl, hb1⟩
  have f0_0 : w1.frozen? ⟨w.heap.size, 0, none⟩ = false := carryF hb1 (v := .int .i64 0) (by first | with_reducible assumption | go_simp) (by first | with_reducible assumption | go_simp)
  have f0_1 : w1.frozen? ⟨w.heap.size, 1, none⟩ = false := carryF hb1 (v := .int .i64 0) (by first | with_reducible assumption | go_simp) (by first | with_reducible assumption | go_simp)
  have c0_0 : w1.cell? ⟨w.heap.size, 0, none⟩ = some (.int .i64 0) := carry hb1 (by first | with_reducible assumption | go_simp)
  have c0_1 : w1.cell? ⟨w.heap.size, 1, none⟩ = some (.int .i64 0) := carry hb1 (by first | with_reducible assumption | go_simp)
  have z0 : w.heap.size < w1.heap.size := by have := hb1.size; first | omega | (simp at this; omega)
  have HBB := Lib.hid ((by repeat (first | with_reducible exact Below.refl _ _ | with_reducible refine Below.setCell ?_ (by first | omega | (simp; done) | (simp; omega)) _ | with_reducible refine Below.drew ?_ | with_reducible refine belowN ?_ _ | with_reducible refine Below.alloc ?_ (by first | omega | (simp; done) | (simp; omega)) _) : Below w.heap.size w _).trans (hb1.mono (by first | omega | (simp; done) | (simp; omega))))
  clear hb1
  go_wp2_with fail
  refine (HE.out _ (by repeat (first | with_reducible exact HBB.out | with_reducible exact Below.refl _ _ | with_reducible refine Below.drew ?_ | with_reducible refine belowN ?_ _ | with_reducible refine Below.setCell ?_ (by first | omega | (simp; done) | (simp; omega)) _ | with_reducible refine Below.alloc ?_ (by first | omega | (simp; done) | (simp; omega)) _))).mono ?_
  rintro r w2 ⟨rfl, hb2⟩
  have f0_0 : w2.frozen? ⟨w.heap.size, 0, none⟩ = false := carryF hb2 (v := .int .i64 0) (by first | with_reducible assumption | go_simp) (by first | with_reducible assumption | go_simp)
  have f0_1 : w2.frozen? ⟨w.heap.size, 1, none⟩ = false := carryF hb2 (v := .int .i64 0) (by first | with_reducible assumption | go_simp) (by first | with_reducible assumption | go_simp)
  have c0_0 : w2.cell? ⟨w.heap.size, 0, none⟩ = some (.int .i64 0) := carry hb2 (by first | with_reducible assumption | go_simp)
  have c0_1 : w2.cell? ⟨w.heap.size, 1, none⟩ = some (.int .i64 0) := carry hb2 (by first | with_reducible assumption | go_simp)
  have z0 : w.heap.size < w2.heap.size := by have := hb2.size; first | omega | (simp at this; omega)
  have HBB := Lib.hid ((by repeat (first | with_reducible exact HBB.out | with_reducible refine Below.setCell ?_ (by first | omega | (simp; done) | (simp; omega)) _ | with_reducible refine Below.drew ?_ | with_reducible refine belowN ?_ _ | with_reducible refine Below.alloc ?_ (by first | omega | (simp; done) | (simp; omega)) _) : Below w.heap.size w _).trans (hb2.mono (by first | omega | (simp; done) | (simp; omega))))
  clear hb2
  go_wp2_with fail
  refine bodyPost_ret (v := rE a b c) (by simp [results, Tryz.results48, go_sem, c0_0, c0_1]) rfl ⟨rfl, by repeat (first | with_reducible exact HBB.out | with_reducible exact Below.refl _ _ | with_reducible refine Below.drew ?_ | with_reducible refine belowN ?_ _ | with_reducible refine Below.setCell ?_ (by first | omega | (simp; done) | (simp; omega)) _ | with_reducible refine Below.alloc ?_ (by first | omega | (simp; done) | (simp; omega)) _)⟩

/-- what Parse returns: the mantissa and the exponent ahead of rounding -/
def psM (t : Bool) (d : List UInt8) (e : Int) : Int := if d = [] then 0 else if t then -(scM (nmV d * BB ^ 3) e) else scM (nmV d * BB ^ 3) e

def psE (d : List UInt8) (e : Int) : Int := if d = [] then 0 else scE (nmV d * BB ^ 3) e

def prV (l : List UInt8) : Value := match numF l with
  | none => rE 0 0 7
  | some (t, d, e) => if d ≠ [] ∧ 53 < (d.length : Int) + e then rE 0 0 3 else oV (psM t d e) (psE d e)

theorem trimL_mem (l : List UInt8) (c b : UInt8) (h : b ∈ Lib.trimLeftB l c) : b ∈ l := by
  unfold Lib.trimLeftB at h
  exact (List.dropWhile_sublist _).subset h

theorem trimL_len (l : List UInt8) (c : UInt8) : (Lib.trimLeftB l c).length ≤ l.length := by
  unfold Lib.trimLeftB
  exact (List.dropWhile_sublist _).length_le

theorem hd_mem (l : List UInt8) : ∀ b ∈ hdD l, 48 ≤ b.toNat ∧ b.toNat ≤ 57 := by
  intro b hb
  obtain ⟨k, hk, rfl⟩ := List.getElem_of_mem hb
  exact hd_dig l k hk

/-- what numeralOf gives: at most 60 digits, and an exponent that is near -/
theorem numF_bd {l : List UInt8} {t : Bool} {d : List UInt8} {e : Int} (h : numF l = some (t, d, e)) : d.length ≤ 60 ∧ -1060 ≤ e ∧ e ≤ 1000 ∧ ∀ b ∈ d, 48 ≤ b.toNat ∧ b.toNat ≤ 57 := by
  unfold numF at h
  split at h
  · cases h
  · rename_i hc
    have hl : l.length ≤ 60 := by
      by_cases q : 60 < l.length
      · exact absurd (Or.inl q) hc
      · omega
    have h0 := trim_len l [45]
    generalize Lib.trimPrefix l [45] = r0 at *
    have h1 := hd_len r0
    split at h
    · have h2 := trim_len (tlD r0) [46]
      generalize Lib.trimPrefix (tlD r0) [46] = a at *
      have h3 := hd_len a
      split at h
      · cases h
      · split at h
        · cases h
        · rename_i x hx
          obtain ⟨b1, b2⟩ := expF_bd _ _ hx
          cases h
          have h4 := trimL_len (hdD r0 ++ hdD a) 48
          rw [List.length_append] at h4
          refine ⟨by omega, by omega, by omega, fun b hb => ?_⟩
          have hm := trimL_mem _ _ _ hb
          rcases List.mem_append.1 hm with q | q
          · exact hd_mem _ _ q
          · exact hd_mem _ _ q
    · split at h
      · cases h
      · rename_i x hx
        obtain ⟨b1, b2⟩ := expF_bd _ _ hx
        cases h
        have h4 := trimL_len (hdD r0) 48
        exact ⟨by omega, by omega, by omega, fun b hb => hd_mem _ _ (trimL_mem _ _ _ hb)⟩

theorem enters_num (caps : Array Value) (W : World) : Sem.run Tryz.prog (callFunc 76 caps) W = .ok (.enter 76 caps) W := Go.Proofs.enters_of (P := Tryz.prog) Tryz.func76 (by kernel_rfl) rfl caps W

abbrev HNum (l : List UInt8) (t : Bool) (d : List UInt8) (e : Int) : Prop := Hid (∀ w : World, Calls Tryz.prog 75 #[.string (bs l)] w fun q w' => q = .returned (.tuple #[.agg #[.bool t, .string (bs d), .int .i64 e], .bool true]) ∧ Below w.heap.size w w')

theorem parse_zero (l : List UInt8) (t : Bool) (e : Int) (w : World) (HN : HNum l t [] e) :
    Calls Tryz.prog 48 #[.string (bs l)] w fun q w' => q = .returned (oV 0 0) ∧ Below w.heap.size w w' :=
  ps_ok (bs l) (bs []) t e _ _ _ w HN (Lib.hid fun W hW => evm_any _ _ 0 0 W (Lib.hid fun W => enters_num _ W) (Lib.hid fun W2 _ => nm_zero t (bs []) e W2 (by rw [ne_iff]; rfl)) (by decide) (by decide) (by decide) (by decide))

theorem parse_over (l d : List UInt8) (t : Bool) (e : Int) (w : World) (HN : HNum l t d e) (hd : d ≠ []) (hl : d.length ≤ 60) (he : e ≤ 1000) (ho : 53 < (d.length : Int) + e) :
    Calls Tryz.prog 48 #[.string (bs l)] w fun q w' => q = .returned (rE 0 0 3) ∧ Below w.heap.size w w' :=
  ps_ok (bs l) (bs d) t e _ _ _ w HN (Lib.hid fun W hW => evm_panic _ _ _ _ W (Lib.hid fun W => enters_num _ W) (Lib.hid fun W2 _ => nm_over t (bs d) e (d.length : Int) W2 (by rw [ne_iff]; simpa using hd) (by rw [bs_size]) (by omega) ho (by omega)))

theorem bs_toList (l : List UInt8) : (bs l).data.toList = l := by simp

theorem parse_f (l d : List UInt8) (e a b : Int) (w : World) (HN : HNum l false d e) (hT : P10 w) (HDiv : Hid (∀ s, s ≤ 19 → DivOk (10 ^ s))) (hd : d ≠ []) (hl : d.length ≤ 60) (h3 : -1060 ≤ e) (ho : (d.length : Int) + e ≤ 53) (hg : ∀ b ∈ d, 48 ≤ b.toNat ∧ b.toNat ≤ 57)
    (ha : scM (nmV d * BB ^ 3) e = a) (hb : scE (nmV d * BB ^ 3) e = b) :
    Calls Tryz.prog 48 #[.string (bs l)] w fun q w' => q = .returned (oV a b) ∧ Below w.heap.size w w' := by
  have hb2 := nm_b (bs d) e (d.length : Int) (nmV d) (by rw [bs_size]) (by omega) (by omega) (by rw [bs_toList]) (by rw [bs_toList]; exact hg)
  obtain ⟨s1, s2, s3, s4⟩ := sc_bd (nmV d * BB ^ 3) e hb2.1 hb2.2
  rw [ha] at s1 s2
  rw [hb] at s3 s4
  refine ps_ok (bs l) (bs d) false e _ _ _ w HN (Lib.hid fun W hW => evm_any _ _ a b W (Lib.hid fun W => enters_num _ W) (Lib.hid fun W2 hW2 => ?_) (by omega) (by omega) (by omega) (by omega))
  have := nm_f (bs d) e (d.length : Int) (nmV d) W2 ((hT.kept hW (Nat.le_refl _)).kept hW2 (Nat.le_refl _)) HDiv (by rw [ne_iff]; simpa using hd) (by rw [bs_size]) (by omega) (by omega) (by omega) (by rw [bs_toList]) (by rw [bs_toList]; exact hg)
  rw [ha, hb] at this
  exact this

theorem parse_t (l d : List UInt8) (e a b : Int) (w : World) (HN : HNum l true d e) (hT : P10 w) (HDiv : Hid (∀ s, s ≤ 19 → DivOk (10 ^ s))) (hd : d ≠ []) (hl : d.length ≤ 60) (h3 : -1060 ≤ e) (ho : (d.length : Int) + e ≤ 53) (hg : ∀ b ∈ d, 48 ≤ b.toNat ∧ b.toNat ≤ 57)
    (ha : scM (nmV d * BB ^ 3) e = a) (hb : scE (nmV d * BB ^ 3) e = b) :
    Calls Tryz.prog 48 #[.string (bs l)] w fun q w' => q = .returned (oV (-a) b) ∧ Below w.heap.size w w' := by
  have hb2 := nm_b (bs d) e (d.length : Int) (nmV d) (by rw [bs_size]) (by omega) (by omega) (by rw [bs_toList]) (by rw [bs_toList]; exact hg)
  obtain ⟨s1, s2, s3, s4⟩ := sc_bd (nmV d * BB ^ 3) e hb2.1 hb2.2
  rw [ha] at s1 s2
  rw [hb] at s3 s4
  refine ps_ok (bs l) (bs d) true e _ _ _ w HN (Lib.hid fun W hW => evm_any _ _ (-a) b W (Lib.hid fun W => enters_num _ W) (Lib.hid fun W2 hW2 => ?_) (by omega) (by omega) (by omega) (by omega))
  have := nm_t (bs d) e (d.length : Int) (nmV d) W2 ((hT.kept hW (Nat.le_refl _)).kept hW2 (Nat.le_refl _)) HDiv (by rw [ne_iff]; simpa using hd) (by rw [bs_size]) (by omega) (by omega) (by omega) (by rw [bs_toList]) (by rw [bs_toList]; exact hg)
  rw [ha, hb] at this
  exact this

theorem psM_f (d : List UInt8) (e : Int) (hd : d ≠ []) : psM false d e = scM (nmV d * BB ^ 3) e := by
  unfold psM
  rw [if_neg hd, if_neg (by decide)]

theorem psM_t (d : List UInt8) (e : Int) (hd : d ≠ []) : psM true d e = -(scM (nmV d * BB ^ 3) e) := by
  unfold psM
  rw [if_neg hd, if_pos rfl]

theorem psE_n (d : List UInt8) (e : Int) (hd : d ≠ []) : psE d e = scE (nmV d * BB ^ 3) e := by
  unfold psE
  rw [if_neg hd]

theorem psM_0 (t : Bool) (e : Int) : psM t [] e = 0 := by
  unfold psM
  rw [if_pos rfl]

theorem psE_0 (e : Int) : psE [] e = 0 := by
  unfold psE
  rw [if_pos rfl]

theorem parse_any (l : List UInt8) (w : World) (hl : l.length ≤ 9223372036854775807) (hT : P10 w) (HDiv : Hid (∀ s, s ≤ 19 → DivOk (10 ^ s))) :
    Calls Tryz.prog 48 #[.string (bs l)] w fun q w' => q = .returned (prV l) ∧ Below w.heap.size w w' := by
  have HN := fun w : World => nof_any l w hl
  unfold prV
  unfold numV at HN
  cases hf : numF l with
  | none =>
    rw [hf] at HN
    exact ps_bad (bs l) w (Lib.hid HN)
  | some x =>
    obtain ⟨t, d, e⟩ := x
    rw [hf] at HN
    obtain ⟨b1, b2, b3, b4⟩ := numF_bd hf
    dsimp only at HN ⊢
    by_cases hd : d = []
    · subst hd
      rw [if_neg (fun q => q.1 rfl), psM_0, psE_0]
      exact parse_zero l t e w (Lib.hid HN)
    · by_cases ho : 53 < (d.length : Int) + e
      · rw [if_pos ⟨hd, ho⟩]
        exact parse_over l d t e w (Lib.hid HN) hd b1 b3 ho
      · rw [if_neg (fun q => ho q.2), psE_n d e hd]
        cases t
        · rw [psM_f d e hd]
          exact parse_f l d e _ _ w (Lib.hid HN) hT HDiv hd b1 b2 (by omega) b4 rfl rfl
        · rw [psM_t d e hd]
          exact parse_t l d e _ _ w (Lib.hid HN) hT HDiv hd b1 b2 (by omega) b4 rfl rfl

end Go.Proofs.YtbfknapmhkpgcaaGreatDoor
