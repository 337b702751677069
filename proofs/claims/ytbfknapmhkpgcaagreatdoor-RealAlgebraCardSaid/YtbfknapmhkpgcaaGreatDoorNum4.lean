/-
  PACKAGE real, numeric strings: the number.
-/
import Derived.Test.YtbfknapmhkpgcaaGreatDoorNum3

namespace Go.Proofs.YtbfknapmhkpgcaaGreatDoor
open Go.RowKit
set_option linter.unusedVariables false

/-- the number that digits denote -/
def nmV (l : List UInt8) : Nat := l.foldl (fun v c => 10 * v + (c.toNat - 48)) 0

theorem nmV_snoc (l : List UInt8) (k : Nat) (h : k < l.length) : nmV (l.take (k + 1)) = 10 * nmV (l.take k) + (l[k].toNat - 48) := by
  unfold nmV
  rw [List.take_succ_eq_append_getElem h, List.foldl_append]
  rfl

theorem nmV_lt : ∀ (l : List UInt8) (v n : Nat), v < 10 ^ n → (∀ b ∈ l, b.toNat ≤ 57) → l.foldl (fun v c => 10 * v + (c.toNat - 48)) v < 10 ^ (n + l.length)
  | [], v, n, h, _ => by simpa using h
  | c :: l, v, n, h, hd => by
    have hc := hd c (by simp)
    have := nmV_lt l (10 * v + (c.toNat - 48)) (n + 1) (by rw [Nat.pow_succ]; omega) (fun b hb => hd b (by simp [hb]))
    rwa [show n + 1 + l.length = n + (c :: l).length from by simp; omega] at this

theorem p10_bb (n : Nat) (h : n ≤ 60) : 10 ^ n < BB ^ 4 := Nat.lt_of_le_of_lt (Nat.pow_le_pow_right (by decide) h) (by decide)

theorem dg_shift (V j : Nat) : dg (V * BB ^ 3) (3 + j) = dg V j := by
  unfold dg
  rw [Nat.pow_add, ← Nat.div_div_eq_div_mul, Nat.mul_div_cancel _ (bbpos 3)]

theorem dg_low (V i : Nat) (h : i < 3) : dg (V * BB ^ 3) i = 0 := by
  unfold dg
  obtain ⟨d, hd⟩ : ∃ d, 3 = i + 1 + d := ⟨2 - i, by omega⟩
  have : V * BB ^ 3 / BB ^ i = V * BB ^ d * BB := by
    rw [hd, Nat.pow_add, Nat.pow_succ]
    have e : V * (BB ^ i * BB * BB ^ d) = BB ^ i * (V * BB ^ d * BB) := by ac_rfl
    rw [e, Nat.mul_div_cancel_left _ (bbpos i)]
  rw [this, Nat.mul_mod_left]

/-- a number in fixed point in block n + 2, its lower limbs 0; the receiver and the result ahead of it -/
structure NSt (w : World) (n V : Nat) (t : Bool) (s : ByteArray) (e : Int) (wr : World) : Prop where
  a0 : wr.cell? ⟨n, 0, none⟩ = some (.bool t)
  a1 : wr.cell? ⟨n, 1, none⟩ = some (.string s)
  a2 : wr.cell? ⟨n, 2, none⟩ = some (.int .i64 e)
  r0 : wr.cell? ⟨n + 1, 0, none⟩ = some (.int .i64 0)
  r1 : wr.cell? ⟨n + 1, 1, none⟩ = some (.int .i64 0)
  f0 : wr.frozen? ⟨n + 1, 0, none⟩ = false
  f1 : wr.frozen? ⟨n + 1, 1, none⟩ = false
  lo : ∀ i, i < 3 → wr.cell? ⟨n + 2, i, none⟩ = some (.int .u64 0)
  hi : Dig wr (n + 2) 3 4 V
  z : n + 2 < wr.heap.size
  bel : Below n w wr

theorem NSt.only {w wr w' : World} {n V V' : Nat} {t : Bool} {s : ByteArray} {e : Int} (h : NSt w n V t s e wr) (k : OnlyR (n + 2) 3 4 wr w') (d : Dig w' (n + 2) 3 4 V') : NSt w n V' t s e w' :=
  ⟨(k.toOnly.cell (p := ⟨n, 0, none⟩) (by simp)).trans h.a0, (k.toOnly.cell (p := ⟨n, 1, none⟩) (by simp)).trans h.a1, (k.toOnly.cell (p := ⟨n, 2, none⟩) (by simp)).trans h.a2, (k.toOnly.cell (p := ⟨n + 1, 0, none⟩) (by simp)).trans h.r0, (k.toOnly.cell (p := ⟨n + 1, 1, none⟩) (by simp)).trans h.r1, (k.toOnly.froz (p := ⟨n + 1, 0, none⟩) (by simp)).trans h.f0, (k.toOnly.froz (p := ⟨n + 1, 1, none⟩) (by simp)).trans h.f1, fun i hi => (k.rest i (Or.inl hi)).trans (h.lo i hi), d, by rw [k.toOnly.size]; exact h.z, k.toOnly.below h.bel (by omega)⟩

theorem NSt.drew {w wr : World} {n V : Nat} {t : Bool} {s : ByteArray} {e : Int} (h : NSt w n V t s e wr) : NSt w n V t s e wr.drew :=
  ⟨by simpa using h.a0, by simpa using h.a1, by simpa using h.a2, by simpa using h.r0, by simpa using h.r1, by simpa using h.f0, by simpa using h.f1, fun i hi => by simpa using h.lo i hi, fun i hi => by simpa using h.hi i hi, by simpa using h.z, h.bel.drew⟩

theorem Dig.zero (w : World) (T : TypeId) : Dig (w.alloc (Obj.cells #[Value.int IntKind.u64 0, Value.int IntKind.u64 0, Value.int IntKind.u64 0, Value.int IntKind.u64 0, Value.int IntKind.u64 0, Value.int IntKind.u64 0, Value.int IntKind.u64 0] T)) w.heap.size 3 4 0 := by
  intro i hi
  have : i = 0 ∨ i = 1 ∨ i = 2 ∨ i = 3 := by omega
  have e : ∀ i, dg 0 i = 0 := fun i => by simp [dg]
  rcases this with rfl | rfl | rfl | rfl <;> rw [e] <;> exact ⟨by go_simp, by go_simp⟩

theorem NSt.start (w : World) (t : Bool) (s : ByteArray) (e : Int) : NSt w w.heap.size 0 t s e (((w.alloc (Obj.cells #[Value.bool t, Value.string s, Value.int IntKind.i64 e] 74)).alloc (Obj.cells #[Value.int IntKind.i64 0, Value.int IntKind.i64 0] 51)).alloc (Obj.cells #[Value.int IntKind.u64 0, Value.int IntKind.u64 0, Value.int IntKind.u64 0, Value.int IntKind.u64 0, Value.int IntKind.u64 0, Value.int IntKind.u64 0, Value.int IntKind.u64 0] 94)) :=
  ⟨by go_simp, by go_simp, by go_simp, by go_simp, by go_simp, by go_simp, by go_simp, fun i hi => by
    have : i = 0 ∨ i = 1 ∨ i = 2 := by omega
    rcases this with rfl | rfl | rfl <;> go_simp, by have := Dig.zero ((w.alloc (Obj.cells #[Value.bool t, Value.string s, Value.int IntKind.i64 e] 74)).alloc (Obj.cells #[Value.int IntKind.i64 0, Value.int IntKind.i64 0] 51)) 94; simpa using this, by simp, (((Below.refl _ _).alloc (Nat.le_refl _) _).alloc (by simp) _).alloc (by simp; omega) _⟩

set_option maxRecDepth 100000 in
set_option maxHeartbeats 1600000 in
theorem nm_zero (t : Bool) (s : ByteArray) (e : Int) (w : World) (hs : s.toList.isEmpty = true) :
    Calls Tryz.prog 76 #[.agg #[.bool t, .string s, .int .i64 e]] w fun r w' => r = .returned (realV 0 0) ∧ Below w.heap.size w w' := by
  go_enter Tryz.func76, Tryz.ntmps76
  go_wp2_with fail
  refine bodyPost_ret (v := realV 0 0) (by simp [results, Tryz.results76, go_sem]) rfl ⟨rfl, by repeat (first | with_reducible exact HBB.out | with_reducible exact Below.refl _ _ | with_reducible refine Below.drew ?_ | with_reducible refine belowN ?_ _ | with_reducible refine Below.setCell ?_ (by first | omega | (simp; done) | (simp; omega)) _ | with_reducible refine Below.alloc ?_ (by first | omega | (simp; done) | (simp; omega)) _)⟩

set_option maxRecDepth 100000 in
set_option maxHeartbeats 1600000 in
theorem nm_over (t : Bool) (s : ByteArray) (e n : Int) (w : World) (hs : s.toList.isEmpty = false) (hn : (s.size : Int) = n) (h1 : n ≤ 100) (h2 : 53 < n + e) (h3 : e ≤ 2000) :
    Calls Tryz.prog 76 #[.agg #[.bool t, .string s, .int .i64 e]] w fun r w' => r = .panicked [{ v := .iface 24 (.int .i64 3), recovered := false }] ∧ Below w.heap.size w w' := by
  have hw := wrap_in (n + e) (by omega) (by omega)
  go_enter Tryz.func76, Tryz.ntmps76
  go_wp2_with fail
  exact ⟨rfl, rfl, by repeat (first | with_reducible exact HBB.out | with_reducible exact Below.refl _ _ | with_reducible refine Below.drew ?_ | with_reducible refine belowN ?_ _ | with_reducible refine Below.setCell ?_ (by first | omega | (simp; done) | (simp; omega)) _ | with_reducible refine Below.alloc ?_ (by first | omega | (simp; done) | (simp; omega)) _)⟩

theorem nm_b (s : ByteArray) (e n : Int) (V : Nat) (hn : (s.size : Int) = n) (h1 : n ≤ 60) (h2 : n + e ≤ 53) (hV : nmV s.data.toList = V) (hdg : ∀ b ∈ s.data.toList, 48 ≤ b.toNat ∧ b.toNat ≤ 57) :
    V * BB ^ 3 < BB ^ 7 ∧ (0 ≤ e → V * BB ^ 3 * 10 ^ e.toNat < BB ^ 7) := by
  have hVlt : V < 10 ^ s.size := by
    rw [← hV, Lib.size_eq]
    have := nmV_lt s.data.toList 0 0 (by decide) (fun b hb => (hdg b hb).2)
    rwa [Nat.zero_add] at this
  have h4 : V < BB ^ 4 := Nat.lt_of_lt_of_le hVlt (Nat.le_of_lt (p10_bb s.size (by omega)))
  have e7 : BB ^ 7 = BB ^ 4 * BB ^ 3 := by rw [← Nat.pow_add]
  refine ⟨by rw [e7]; exact Nat.mul_lt_mul_of_pos_right h4 (bbpos 3), fun he => ?_⟩
  have a : V * 10 ^ e.toNat < 10 ^ 53 := by
    have b1 : V * 10 ^ e.toNat < 10 ^ s.size * 10 ^ e.toNat := Nat.mul_lt_mul_of_pos_right hVlt (Nat.pow_pos (by decide))
    rw [← Nat.pow_add] at b1
    exact Nat.lt_of_lt_of_le b1 (Nat.pow_le_pow_right (by decide) (by omega))
  rw [show V * BB ^ 3 * 10 ^ e.toNat = V * 10 ^ e.toNat * BB ^ 3 from by ac_rfl, e7]
  exact Nat.mul_lt_mul_of_pos_right (Nat.lt_trans a (p10_bb 53 (by decide))) (bbpos 3)

set_option maxRecDepth 100000 in
set_option maxHeartbeats 1600000 in
theorem nm_t (s : ByteArray) (e n : Int) (V : Nat) (w : World) (hT : P10 w) (HDiv : Hid (∀ s, s ≤ 19 → DivOk (10 ^ s))) (hs : s.toList.isEmpty = false) (hn : (s.size : Int) = n) (h1 : n ≤ 60) (h2 : n + e ≤ 53) (h3 : -1100 ≤ e) (hV : nmV s.data.toList = V) (hdg : ∀ b ∈ s.data.toList, 48 ≤ b.toNat ∧ b.toNat ≤ 57) :
    Calls Tryz.prog 76 #[.agg #[.bool true, .string s, .int .i64 e]] w fun r w' => r = .returned (realV (-(scM (V * BB ^ 3) e)) (scE (V * BB ^ 3) e)) ∧ Below w.heap.size w w' := by
  have hw := wrap_in (n + e) (by omega) (by omega)
  have HN := Lib.hid (NSt.start w true s e)
  have HT := Lib.hid hT
  have HV := Lib.hid hV
  have HDG := Lib.hid hdg
  have hlen : s.data.toList.length = s.size := (Lib.size_eq s).symm
  have HLEN := Lib.hid hlen
  clear hT hV hdg hlen
  go_enter Tryz.func76, Tryz.ntmps76
  go_wp2_with fail
  go_loopw [21] (fun i wr => ∃ k : Nat, k ≤ s.size ∧ i = .int .i64 k ∧ NSt w w.heap.size (nmV (s.data.toList.take k)) true s e wr) (fun i _ => s.size - (intOf i).toNat)
  case atStart => exact ⟨0, Nat.zero_le _, rfl, HN.out⟩
  case round =>
    obtain ⟨k, hk, rfl, hst⟩ := hrel
    have HW := Lib.hid hst
    clear hst HN
    by_cases hlt : k < s.size
    · have hb := HDG.out s[k] (by have : s[k] = s.data.toList[k]'(by rw [HLEN.out]; exact hlt) := rfl; rw [this]; exact List.getElem_mem _)
      have HS : Hid (nmV (s.data.toList.take (k + 1)) = nmV (s.data.toList.take k) * 10 + (s[k].toNat - 48)) := Lib.hid (by have := nmV_snoc s.data.toList k (by rw [HLEN.out]; exact hlt); rw [this]; have : s[k] = s.data.toList[k]'(by rw [HLEN.out]; exact hlt) := rfl; rw [this]; omega)
      obtain ⟨hb1, hb2⟩ := hb
      have hi1 : (48 : Int) ≤ (s[k].toNat : Int) := by omega
      have hi2 : (s[k].toNat : Int) ≤ 57 := by omega
      have hki : (k : Int) < (s.size : Int) := by omega
      have HD48 := Lib.hid (show ((s[k].toNat : Int) - 48) = ((s[k].toNat - 48 : Nat) : Int) from by omega)
      have HDB := Lib.hid (show s[k].toNat - 48 < BB from by simp only [BB]; omega)
      have a1 := HW.out.a1
      go_wp2_with fail
      go_still_tail 7, (by kernel_rfl)
      change wpList _ _ _ _ _ wr.drew
      go_wp2_with fail
      rw [HD48.out]
      refine (mul_any (w.heap.size + 2) 3 4 4 _ 10 _ wr.drew (by omega) (by decide) HDB.out HW.out.drew.hi).mono ?_
      rintro r w1 ⟨rfl, ho, hd⟩
      rw [← HS.out] at hd
      have HF1 := Lib.hid (HW.out.drew.only ho hd)
      clear ho hd
      go_wp2_with fail
      exact ⟨⟨k + 1, by omega, by simp, HF1.out⟩, by simp [intOf]; omega⟩
    · obtain rfl : k = s.size := by omega
      have HE : Hid (nmV (s.data.toList.take s.size) = V) := Lib.hid (by rw [← HLEN.out, List.take_length]; exact HV.out)
      rw [HE.out] at HW
      have a0 := HW.out.a0
      have a2 := HW.out.a2
      have z0 : w.heap.size < wr.heap.size := by have := HW.out.z; omega
      have z1 : w.heap.size + 1 < wr.heap.size := by have := HW.out.z; omega
      have z2 : w.heap.size + 1 + 1 < wr.heap.size := by have := HW.out.z; omega
      have d0 : wr.cell? ⟨w.heap.size + 1 + 1, 0, none⟩ = some (.int .u64 (dg (V * BB ^ 3) 0 : Int)) := by rw [dg_low V 0 (by decide)]; exact HW.out.lo 0 (by decide)
      have d1 : wr.cell? ⟨w.heap.size + 1 + 1, 1, none⟩ = some (.int .u64 (dg (V * BB ^ 3) 1 : Int)) := by rw [dg_low V 1 (by decide)]; exact HW.out.lo 1 (by decide)
      have d2 : wr.cell? ⟨w.heap.size + 1 + 1, 2, none⟩ = some (.int .u64 (dg (V * BB ^ 3) 2 : Int)) := by rw [dg_low V 2 (by decide)]; exact HW.out.lo 2 (by decide)
      have d3 : wr.cell? ⟨w.heap.size + 1 + 1, 3, none⟩ = some (.int .u64 (dg (V * BB ^ 3) 3 : Int)) := by rw [dg_shift V 0]; exact (HW.out.hi 0 (by decide)).1
      have d4 : wr.cell? ⟨w.heap.size + 1 + 1, 4, none⟩ = some (.int .u64 (dg (V * BB ^ 3) 4 : Int)) := by rw [dg_shift V 1]; exact (HW.out.hi 1 (by decide)).1
      have d5 : wr.cell? ⟨w.heap.size + 1 + 1, 5, none⟩ = some (.int .u64 (dg (V * BB ^ 3) 5 : Int)) := by rw [dg_shift V 2]; exact (HW.out.hi 2 (by decide)).1
      have d6 : wr.cell? ⟨w.heap.size + 1 + 1, 6, none⟩ = some (.int .u64 (dg (V * BB ^ 3) 6 : Int)) := by rw [dg_shift V 3]; exact (HW.out.hi 3 (by decide)).1
      go_wp2_with fail
      refine (sc_any (V * BB ^ 3) e wr (HT.out.kept HW.out.bel (Nat.le_refl _)) (by omega) (by omega) (nm_b s e n V hn h1 h2 HV.out HDG.out).1 (nm_b s e n V hn h1 h2 HV.out HDG.out).2 HDiv).mono ?_
      rintro r w2 ⟨rfl, hb2⟩
      have b0 : w2.cell? ⟨w.heap.size, 0, none⟩ = some (.bool true) := carry hb2 HW.out.a0
      have c1_0 : w2.cell? ⟨w.heap.size + 1, 0, none⟩ = some (.int .i64 0) := carry hb2 HW.out.r0
      have c1_1 : w2.cell? ⟨w.heap.size + 1, 1, none⟩ = some (.int .i64 0) := carry hb2 HW.out.r1
      have f1_0 : w2.frozen? ⟨w.heap.size + 1, 0, none⟩ = false := carryF hb2 (v := .int .i64 0) HW.out.r0 HW.out.f0
      have f1_1 : w2.frozen? ⟨w.heap.size + 1, 1, none⟩ = false := carryF hb2 (v := .int .i64 0) HW.out.r1 HW.out.f1
      have y0 : w.heap.size < w2.heap.size := Nat.lt_of_lt_of_le z0 hb2.size
      have y1 : w.heap.size + 1 < w2.heap.size := Nat.lt_of_lt_of_le z1 hb2.size
      have HBB := Lib.hid (HW.out.bel.trans (hb2.mono (by omega)))
      have hsb := sc_bd (V * BB ^ 3) e (nm_b s e n V hn h1 h2 HV.out HDG.out).1 (nm_b s e n V hn h1 h2 HV.out HDG.out).2
      clear hb2 d0 d1 d2 d3 d4 d5 d6 a0 a2 z0 z1 z2
      unfold realV
      generalize hm : scM (V * BB ^ 3) e = am at hsb ⊢
      generalize he : scE (V * BB ^ 3) e = ae at hsb ⊢
      have HQ := Lib.hid (And.intro hm he)
      clear hm he
      obtain ⟨q1, q2, q3, q4⟩ := hsb
      go_wp2_with fail
      refine bodyPost_ret (v := realV (-am) ae) (by simp [results, Tryz.results76, go_sem, c1_0, c1_1, y1]) rfl ⟨by rw [← HQ.out.1, ← HQ.out.2], by repeat (first | with_reducible exact HBB.out | with_reducible exact Below.refl _ _ | with_reducible refine Below.drew ?_ | with_reducible refine belowN ?_ _ | with_reducible refine Below.setCell ?_ (by first | omega | (simp; done) | (simp; omega)) _ | with_reducible refine Below.alloc ?_ (by first | omega | (simp; done) | (simp; omega)) _)⟩

set_option maxRecDepth 100000 in
set_option maxHeartbeats 1600000 in
theorem nm_f (s : ByteArray) (e n : Int) (V : Nat) (w : World) (hT : P10 w) (HDiv : Hid (∀ s, s ≤ 19 → DivOk (10 ^ s))) (hs : s.toList.isEmpty = false) (hn : (s.size : Int) = n) (h1 : n ≤ 60) (h2 : n + e ≤ 53) (h3 : -1100 ≤ e) (hV : nmV s.data.toList = V) (hdg : ∀ b ∈ s.data.toList, 48 ≤ b.toNat ∧ b.toNat ≤ 57) :
    Calls Tryz.prog 76 #[.agg #[.bool false, .string s, .int .i64 e]] w fun r w' => r = .returned (realV ((scM (V * BB ^ 3) e)) (scE (V * BB ^ 3) e)) ∧ Below w.heap.size w w' := by
  have hw := wrap_in (n + e) (by omega) (by omega)
  have HN := Lib.hid (NSt.start w false s e)
  have HT := Lib.hid hT
  have HV := Lib.hid hV
  have HDG := Lib.hid hdg
  have hlen : s.data.toList.length = s.size := (Lib.size_eq s).symm
  have HLEN := Lib.hid hlen
  clear hT hV hdg hlen
  go_enter Tryz.func76, Tryz.ntmps76
  go_wp2_with fail
  go_loopw [21] (fun i wr => ∃ k : Nat, k ≤ s.size ∧ i = .int .i64 k ∧ NSt w w.heap.size (nmV (s.data.toList.take k)) false s e wr) (fun i _ => s.size - (intOf i).toNat)
  case atStart => exact ⟨0, Nat.zero_le _, rfl, HN.out⟩
  case round =>
    obtain ⟨k, hk, rfl, hst⟩ := hrel
    have HW := Lib.hid hst
    clear hst HN
    by_cases hlt : k < s.size
    · have hb := HDG.out s[k] (by have : s[k] = s.data.toList[k]'(by rw [HLEN.out]; exact hlt) := rfl; rw [this]; exact List.getElem_mem _)
      have HS : Hid (nmV (s.data.toList.take (k + 1)) = nmV (s.data.toList.take k) * 10 + (s[k].toNat - 48)) := Lib.hid (by have := nmV_snoc s.data.toList k (by rw [HLEN.out]; exact hlt); rw [this]; have : s[k] = s.data.toList[k]'(by rw [HLEN.out]; exact hlt) := rfl; rw [this]; omega)
      obtain ⟨hb1, hb2⟩ := hb
      have hi1 : (48 : Int) ≤ (s[k].toNat : Int) := by omega
      have hi2 : (s[k].toNat : Int) ≤ 57 := by omega
      have hki : (k : Int) < (s.size : Int) := by omega
      have HD48 := Lib.hid (show ((s[k].toNat : Int) - 48) = ((s[k].toNat - 48 : Nat) : Int) from by omega)
      have HDB := Lib.hid (show s[k].toNat - 48 < BB from by simp only [BB]; omega)
      have a1 := HW.out.a1
      go_wp2_with fail
      go_still_tail 7, (by kernel_rfl)
      change wpList _ _ _ _ _ wr.drew
      go_wp2_with fail
      rw [HD48.out]
      refine (mul_any (w.heap.size + 2) 3 4 4 _ 10 _ wr.drew (by omega) (by decide) HDB.out HW.out.drew.hi).mono ?_
      rintro r w1 ⟨rfl, ho, hd⟩
      rw [← HS.out] at hd
      have HF1 := Lib.hid (HW.out.drew.only ho hd)
      clear ho hd
      go_wp2_with fail
      exact ⟨⟨k + 1, by omega, by simp, HF1.out⟩, by simp [intOf]; omega⟩
    · obtain rfl : k = s.size := by omega
      have HE : Hid (nmV (s.data.toList.take s.size) = V) := Lib.hid (by rw [← HLEN.out, List.take_length]; exact HV.out)
      rw [HE.out] at HW
      have a0 := HW.out.a0
      have a2 := HW.out.a2
      have z0 : w.heap.size < wr.heap.size := by have := HW.out.z; omega
      have z1 : w.heap.size + 1 < wr.heap.size := by have := HW.out.z; omega
      have z2 : w.heap.size + 1 + 1 < wr.heap.size := by have := HW.out.z; omega
      have d0 : wr.cell? ⟨w.heap.size + 1 + 1, 0, none⟩ = some (.int .u64 (dg (V * BB ^ 3) 0 : Int)) := by rw [dg_low V 0 (by decide)]; exact HW.out.lo 0 (by decide)
      have d1 : wr.cell? ⟨w.heap.size + 1 + 1, 1, none⟩ = some (.int .u64 (dg (V * BB ^ 3) 1 : Int)) := by rw [dg_low V 1 (by decide)]; exact HW.out.lo 1 (by decide)
      have d2 : wr.cell? ⟨w.heap.size + 1 + 1, 2, none⟩ = some (.int .u64 (dg (V * BB ^ 3) 2 : Int)) := by rw [dg_low V 2 (by decide)]; exact HW.out.lo 2 (by decide)
      have d3 : wr.cell? ⟨w.heap.size + 1 + 1, 3, none⟩ = some (.int .u64 (dg (V * BB ^ 3) 3 : Int)) := by rw [dg_shift V 0]; exact (HW.out.hi 0 (by decide)).1
      have d4 : wr.cell? ⟨w.heap.size + 1 + 1, 4, none⟩ = some (.int .u64 (dg (V * BB ^ 3) 4 : Int)) := by rw [dg_shift V 1]; exact (HW.out.hi 1 (by decide)).1
      have d5 : wr.cell? ⟨w.heap.size + 1 + 1, 5, none⟩ = some (.int .u64 (dg (V * BB ^ 3) 5 : Int)) := by rw [dg_shift V 2]; exact (HW.out.hi 2 (by decide)).1
      have d6 : wr.cell? ⟨w.heap.size + 1 + 1, 6, none⟩ = some (.int .u64 (dg (V * BB ^ 3) 6 : Int)) := by rw [dg_shift V 3]; exact (HW.out.hi 3 (by decide)).1
      go_wp2_with fail
      refine (sc_any (V * BB ^ 3) e wr (HT.out.kept HW.out.bel (Nat.le_refl _)) (by omega) (by omega) (nm_b s e n V hn h1 h2 HV.out HDG.out).1 (nm_b s e n V hn h1 h2 HV.out HDG.out).2 HDiv).mono ?_
      rintro r w2 ⟨rfl, hb2⟩
      have b0 : w2.cell? ⟨w.heap.size, 0, none⟩ = some (.bool false) := carry hb2 HW.out.a0
      have c1_0 : w2.cell? ⟨w.heap.size + 1, 0, none⟩ = some (.int .i64 0) := carry hb2 HW.out.r0
      have c1_1 : w2.cell? ⟨w.heap.size + 1, 1, none⟩ = some (.int .i64 0) := carry hb2 HW.out.r1
      have f1_0 : w2.frozen? ⟨w.heap.size + 1, 0, none⟩ = false := carryF hb2 (v := .int .i64 0) HW.out.r0 HW.out.f0
      have f1_1 : w2.frozen? ⟨w.heap.size + 1, 1, none⟩ = false := carryF hb2 (v := .int .i64 0) HW.out.r1 HW.out.f1
      have y0 : w.heap.size < w2.heap.size := Nat.lt_of_lt_of_le z0 hb2.size
      have y1 : w.heap.size + 1 < w2.heap.size := Nat.lt_of_lt_of_le z1 hb2.size
      have HBB := Lib.hid (HW.out.bel.trans (hb2.mono (by omega)))
      have hsb := sc_bd (V * BB ^ 3) e (nm_b s e n V hn h1 h2 HV.out HDG.out).1 (nm_b s e n V hn h1 h2 HV.out HDG.out).2
      clear hb2 d0 d1 d2 d3 d4 d5 d6 a0 a2 z0 z1 z2
      unfold realV
      generalize hm : scM (V * BB ^ 3) e = am at hsb ⊢
      generalize he : scE (V * BB ^ 3) e = ae at hsb ⊢
      have HQ := Lib.hid (And.intro hm he)
      clear hm he
      obtain ⟨q1, q2, q3, q4⟩ := hsb
      go_wp2_with fail
      refine bodyPost_ret (v := realV (am) ae) (by simp [results, Tryz.results76, go_sem, c1_0, c1_1, y1]) rfl ⟨by rw [← HQ.out.1, ← HQ.out.2], by repeat (first | with_reducible exact HBB.out | with_reducible exact Below.refl _ _ | with_reducible refine Below.drew ?_ | with_reducible refine belowN ?_ _ | with_reducible refine Below.setCell ?_ (by first | omega | (simp; done) | (simp; omega)) _ | with_reducible refine Below.alloc ?_ (by first | omega | (simp; done) | (simp; omega)) _)⟩

end Go.Proofs.YtbfknapmhkpgcaaGreatDoor
