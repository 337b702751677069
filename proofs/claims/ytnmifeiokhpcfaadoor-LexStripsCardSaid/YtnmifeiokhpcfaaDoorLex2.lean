/-
  PACKAGE lex: places in a text: sees, has, pass, take.
-/
import Derived.Test.YtnmifeiokhpcfaaDoorLex1
import Derived.BigQuiet
import Derived.Deep.QuietTactic

namespace Go.Proofs.YtnmifeiokhpcfaaDoor
open Go.RowKit
set_option linter.unusedVariables false

theorem sees_any {w : World} {B : Nat} {T : TypeId} {s : ByteArray} {a : Nat} {rest : List Value} (c : Int) (hc : okCls c) (h : Pos w B T s a rest) (ha : a ≤ s.size) :
    Calls Tryd.prog 38 #[.pointer (some ⟨B, 0, none⟩), .int .u8 c] w fun e w' => e = .returned (.bool (seesV c s a)) ∧ ∃ m, w' = w.drewN m := by
  have c0 := h.c0
  have c1 := h.c1
  have HP := Lib.hid h
  clear h
  by_cases hlt : a < s.size
  · have hb : ((a : Int) == (s.size : Int)) = false := by simp; omega
    have hx : s[a].toNat < 256 := UInt8.toNat_lt _
    have HA := Lib.hid (and_cls c hc s[a].toNat)
    have HB := Lib.hid (show seesV c s a = inCls c s[a].toNat from by rw [seesV, byt_in hlt])
    have h1 : (0 : Int) ≤ a := by omega
    have h2 : (a : Int) < s.size := by omega
    clear hc
    go_enter Tryd.func38, Tryd.ntmps38
    go_wp2_with fail
    go_quiet (first
      | (go_at_call 24; refine Calls.quiet_of (done_is (HP.out.drewN _) hb))
      | (go_at_call 45; exact Calls.quiet_of_same ((classOf_any s[a].toNat _ hx).mono fun e w' h => ⟨h.1, h.2.symm⟩)))
    go_wp2_with fail
    go_ret
    exact ⟨by rw [HB.out]; exact congrArg (fun x => Ending.returned (Value.bool x)) HA.out.1, _, rfl⟩
  · have hb : ((a : Int) == (s.size : Int)) = true := by simp; omega
    have HB := Lib.hid (show seesV c s a = false from by rw [seesV, byt_out (by omega), inCls_out])
    clear hc
    go_enter Tryd.func38, Tryd.ntmps38
    go_wp2_with fail
    go_quiet ((go_at_call 24; refine Calls.quiet_of (done_is (HP.out.drewN _) hb)))
    go_wp2_with fail
    go_ret
    exact ⟨by rw [HB.out]; rfl, _, rfl⟩

theorem has_any {w : World} {B : Nat} {T : TypeId} {s : ByteArray} {a : Nat} {rest : List Value} (c : Nat) (hc : c < 256) (h : Pos w B T s a rest) (ha : a ≤ s.size) :
    Calls Tryd.prog 42 #[.pointer (some ⟨B, 0, none⟩), .int .u8 (c : Int)] w fun e w' => e = .returned (.bool (byt s a == c)) ∧ ∃ m, w' = w.drewN m := by
  have c0 := h.c0
  have c1 := h.c1
  have HP := Lib.hid h
  clear h
  by_cases hlt : a < s.size
  · have hb : ((a : Int) == (s.size : Int)) = false := by simp; omega
    have HB := Lib.hid (show (byt s a == c) = (((s[a].toNat : Int)) == (c : Int)) from by rw [byt_in hlt, Bool.eq_iff_iff]; simp; omega)
    have h1 : (0 : Int) ≤ a := by omega
    have h2 : (a : Int) < s.size := by omega
    go_enter Tryd.func42, Tryd.ntmps42
    go_wp2_with fail
    go_quiet ((go_at_call 24; refine Calls.quiet_of (done_is (HP.out.drewN _) hb)))
    go_wp2_with fail
    go_ret
    exact ⟨by rw [HB.out]; rfl, _, rfl⟩
  · have hb : ((a : Int) == (s.size : Int)) = true := by simp; omega
    have HB := Lib.hid (show (byt s a == c) = false from by rw [byt_out (by omega)]; simp; omega)
    go_enter Tryd.func42, Tryd.ntmps42
    go_wp2_with fail
    go_quiet ((go_at_call 24; refine Calls.quiet_of (done_is (HP.out.drewN _) hb)))
    go_wp2_with fail
    go_ret
    exact ⟨by rw [HB.out]; rfl, _, rfl⟩

/-- behind the byte c, if it is here -/
def passAt (c : Nat) (s : ByteArray) (a : Nat) : Nat := if byt s a = c then a + 1 else a
theorem passAt_le {c : Nat} {s : ByteArray} {a : Nat} (hc : c < 256) (ha : a ≤ s.size) : passAt c s a ≤ s.size := by
  unfold passAt
  split
  · rename_i h
    by_cases h1 : a < s.size
    · omega
    · rw [byt_out (by omega)] at h; omega
  · exact ha

theorem pass_any {w : World} {B : Nat} {T : TypeId} {s : ByteArray} {a : Nat} {rest : List Value} (c : Nat) (hc : c < 256) (h : Pos w B T s a rest) (ha : a ≤ s.size) (hs : s.size < 4611686018427387904) :
    Calls Tryd.prog 54 #[.pointer (some ⟨B, 0, none⟩), .int .u8 (c : Int)] w fun e w' =>
      e = .returned (.bool (byt s a == c)) ∧ w.grownBy w' (some B) ∧ Pos w' B T s (passAt c s a) rest := by
  have c1 := h.c1
  have f1 := h.f1
  have HP := Lib.hid h
  clear h
  go_enter Tryd.func54, Tryd.ntmps54
  go_wp2_with fail
  refine (has_any c hc HP.out ha).mono ?_
  rintro e w' ⟨rfl, m, rfl⟩
  cases hx : (byt s a == c)
  · have HY := Lib.hid hx
    have HX := Lib.hid (show passAt c s a = a from if_neg (by simpa using hx))
    clear hx
    go_wp2_with fail
    go_ret
    exact ⟨by rw [HY.out]; rfl, grown_drewN (grown_refl _ _) _, by rw [HX.out]; exact HP.out⟩
  · have HY := Lib.hid hx
    have HX := Lib.hid (show passAt c s a = a + 1 from if_pos (by simpa using hx))
    clear hx
    go_wp2_with fail
    go_ret
    exact ⟨by rw [HY.out]; rfl, (grown_drewN (grown_refl _ _) _).trans (grown_setCell _ ⟨B, 1, none⟩ _), by rw [HX.out]; exact (HP.out.drewN m).set _⟩

def posOf (B : Nat) (w : World) : Nat := match w.cell? ⟨B, 1, none⟩ with | some v => (intOf v).toNat | none => 0
theorem posOf_is {w : World} {B : Nat} {T : TypeId} {s : ByteArray} {a : Nat} {rest : List Value} (h : Pos w B T s a rest) : posOf B w = a := by
  simp [posOf, h.c1, intOf]

theorem take_any {w : World} {B : Nat} {T : TypeId} {s : ByteArray} {a : Nat} {rest : List Value} (c : Int) (hc : okCls c) (h : Pos w B T s a rest) (ha : a ≤ s.size) (hs : s.size < 4611686018427387904) :
    Calls Tryd.prog 23 #[.pointer (some ⟨B, 0, none⟩), .int .u8 c] w fun e w' =>
      e = .returned (.string (s.extract a (upTo (inCls c) s a))) ∧ w.grownBy w' (some B) ∧ Pos w' B T s (upTo (inCls c) s a) rest := by
  have c1 := h.c1
  have HP := Lib.hid h
  have HC := Lib.hid hc
  clear h hc
  go_enter Tryd.func23, Tryd.ntmps23
  go_wp2_with fail
  go_loopw [] (fun wr => ∃ k : Nat, a ≤ k ∧ k ≤ s.size ∧ upTo (inCls c) s k = upTo (inCls c) s a ∧ w.grownBy wr (some B) ∧ Pos wr B T s k rest) (fun wr => s.size - posOf B wr)
  case atStart => exact ⟨a, Nat.le_refl _, ha, rfl, grown_refl _ _, HP.out⟩
  case round =>
    obtain ⟨k, hk1, hk2, hk, hg, hp⟩ := hrel
    have d1 := hp.c1
    have d0 := hp.c0
    have e1 := hp.f1
    have HK := Lib.hid hk
    have HG := Lib.hid hg
    have HQ := Lib.hid hp
    clear hk hg hp
    go_wp2_with fail
    refine (sees_any c HC.out HQ.out hk2).mono ?_
    rintro e w' ⟨rfl, m, rfl⟩
    cases hx : seesV c s k
    · have HX := Lib.hid (show upTo (inCls c) s a = k from HK.out.symm.trans (upTo_stop hx))
      clear hx
      go_wp2_with fail
      have hz1 : (a : Int) ≤ k := by omega
      have hz2 : (k : Int) ≤ s.size := by omega
      go_quiet (fail)
      go_wp2_with fail
      go_ret
      exact ⟨by rw [HX.out]; rfl, grown_drewN (grown_drewN HG.out _) _, by rw [HX.out]; exact HQ.out⟩
    · have hlt : k < s.size := by
        by_cases h : k < s.size
        · exact h
        · rw [seesV, byt_out (by omega), inCls_out] at hx; cases hx
      have HX := Lib.hid (show upTo (inCls c) s (k + 1) = upTo (inCls c) s a from (upTo_step hlt hx).symm.trans HK.out)
      clear hx
      go_wp2_with fail
      go_roundw
      case rel => exact ⟨k + 1, by omega, by omega, HX.out, (grown_drewN HG.out _).trans (grown_setCell _ ⟨B, 1, none⟩ _), by have := (HQ.out.drewN m).set ((k : Int) + 1); simpa using this⟩
      case measure =>
        rw [posOf_is HQ.out, posOf_is (a := k + 1) (by have := (HQ.out.drewN m).set ((k : Int) + 1); simpa using this)]
        omega

end Go.Proofs.YtnmifeiokhpcfaaDoor
