/-
  PACKAGE lex: places in a text: passComment, passAllButBlanks.
-/
import Derived.Test.YtnmifeiokhpcfaaDoorLex3
import Derived.Test.YtnmifeiokhpcfaaDoorShelf
import Derived.BigQuiet
import Derived.Deep.QuietTactic

namespace Go.Proofs.YtnmifeiokhpcfaaDoor
open Go.RowKit
set_option linter.unusedVariables false

/-- the next semicolon, or the end -/
def noSemi (b : Nat) : Bool := b != 59 && decide (b < 256)
def toSemi (s : ByteArray) (a : Nat) : Nat := upTo noSemi s a
theorem drop_cons (s : ByteArray) (a : Nat) (h : a < s.size) : s.data.toList.drop a = s[a] :: s.data.toList.drop (a + 1) := by
  have h' : a < s.data.toList.length := by simpa using h
  rw [List.drop_eq_getElem_cons h']
  rfl
theorem extract_list (s : ByteArray) (a : Nat) : (s.extract a s.size).data.toList = s.data.toList.drop a := by
  rw [ByteArray.data_extract]
  simp only [Array.toList_extract, List.extract_eq_take_drop]
  exact List.take_of_length_le (by simp)
theorem index_semi (s : ByteArray) (n a : Nat) (hn : s.size - a = n) :
    Lib.indexByte (s.data.toList.drop a) 59 = if toSemi s a < s.size then ((toSemi s a : Int) - a) else -1 := by
  induction n generalizing a with
  | zero =>
    rw [List.drop_eq_nil_of_le (by simp; omega)]
    unfold toSemi
    rw [upTo_end (by omega), if_neg (by omega)]
    rfl
  | succ n ih =>
    have h : a < s.size := by omega
    rw [drop_cons s a h, Lib.indexByte, ih (a + 1) (by omega)]
    have hx : s[a].toNat < 256 := UInt8.toNat_lt _
    by_cases hb : s[a].toNat = 59
    · have e : s[a] = 59 := UInt8.toNat_inj.1 hb
      have e2 : toSemi s a = a := upTo_stop (by rw [byt_in h, hb]; rfl)
      rw [e, e2, if_pos (by rfl), if_pos h]
      omega
    · have e : (s[a] == 59) = false := by
        cases hq : (s[a] == 59)
        · rfl
        · exact absurd (by rw [eq_of_beq hq]; rfl) hb
      have e2 : toSemi s a = toSemi s (a + 1) := upTo_step h (by rw [byt_in h]; simp [noSemi, hb, hx])
      have g := upTo_ge noSemi s (a + 1)
      rw [e, e2]
      simp only [Bool.false_eq_true, if_false]
      by_cases hs : toSemi s (a + 1) < s.size
      · rw [if_pos hs, if_pos hs, if_neg]
        · omega
        · have : a + 1 ≤ toSemi s (a + 1) := g
          simp
          omega
      · rw [if_neg hs, if_neg hs, if_pos (by rfl)]
def semiJ (s : ByteArray) (a : Nat) : Int := if toSemi s a < s.size then ((toSemi s a : Int) - a) else -1
def semiAt (s : ByteArray) (a : Nat) : Nat := if toSemi s a < s.size then toSemi s a + 1 else a
theorem semi_call (s : ByteArray) (a : Nat) (w : World) :
    Calls Tryd.prog 46 #[.string (s.extract a s.size), .int .u8 59] w fun e w' => e = .returned (.int .i64 (semiJ s a)) ∧ w' = w := by
  have h := Tryd.strings_IndexByte (s.extract a s.size) 59 w
  rw [extract_list, show (59 : Int).toNat.toUInt8 = 59 from rfl, index_semi s _ a rfl] at h
  exact h

theorem passComment_any {w : World} {B : Nat} {T : TypeId} {s : ByteArray} {a : Nat} {rest : List Value} (h : Pos w B T s a rest) (ha : a ≤ s.size) (hs : s.size < 4611686018427387904) :
    Calls Tryd.prog 30 #[.pointer (some ⟨B, 0, none⟩)] w fun e w' =>
      e = .returned (.bool (decide (toSemi s a < s.size))) ∧ w.grownBy w' (some B) ∧ Pos w' B T s (semiAt s a) rest := by
  have c0 := h.c0
  have c1 := h.c1
  have f1 := h.f1
  have HP := Lib.hid h
  have hj : -1 ≤ semiJ s a ∧ semiJ s a ≤ s.size ∧ (1 + semiJ s a : Int) + a = semiAt s a ∧ (decide (0 < 1 + semiJ s a) = decide (toSemi s a < s.size)) := by
    have g : a ≤ toSemi s a := upTo_ge noSemi s a
    unfold semiJ semiAt
    by_cases h : toSemi s a < s.size
    · rw [if_pos h, if_pos h]
      refine ⟨by omega, by omega, by omega, ?_⟩
      rw [decide_eq_true h]
      exact decide_eq_true (by omega)
    · rw [if_neg h, if_neg h]
      refine ⟨by omega, by omega, by omega, ?_⟩
      rw [decide_eq_false h]
      rfl
  have SC := Lib.hid (semi_call s a)
  generalize semiJ s a = j at *
  obtain ⟨j1, j2, j3, j4⟩ := hj
  have J3 := Lib.hid j3
  have J4 := Lib.hid j4
  have hz1 : (0 : Int) ≤ a := by omega
  have hz2 : (a : Int) ≤ s.size := by omega
  clear h j3 j4
  go_enter Tryd.func30, Tryd.ntmps30
  go_wp2_with fail
  go_quiet ((go_at_call 46; exact Calls.quiet_of_same (SC.out _)))
  go_wp2_with fail
  go_ret
  refine ⟨by rw [← J4.out]; rfl, grown_and (grown_drewN (grown_refl _ _) _) (grown_setCell _ ⟨B, 1, none⟩ _) (fun j e => .inr e), ?_⟩
  rw [← J3.out, Int.add_comm]
  exact (HP.out.drewN nq).set _

/-- behind the last byte that is no blank, below n -/
def backTo (s : ByteArray) : Nat → Nat
  | 0 => 0
  | n + 1 => if isBlank (byt s n) then backTo s n else n + 1
theorem backTo_gt {s : ByteArray} {a : Nat} (hb : isBlank (byt s a) = false) (n : Nat) (h : a < n) : a < backTo s n ∧ backTo s n ≤ n := by
  induction n with
  | zero => omega
  | succ n ih =>
    unfold backTo
    by_cases e : isBlank (byt s n) = true
    · rw [if_pos e]
      have : a ≠ n := fun h => by rw [h] at hb; rw [hb] at e; cases e
      have := ih (by omega)
      omega
    · rw [if_neg e]; omega

set_option maxHeartbeats 800000 in
theorem passAll_any {w : World} {B : Nat} {T : TypeId} {s : ByteArray} {a : Nat} {rest : List Value} (h : Pos w B T s a rest) (ha : a < s.size) (hb : isBlank (byt s a) = false) (hs : s.size < 4611686018427387904) :
    Calls Tryd.prog 29 #[.pointer (some ⟨B, 0, none⟩)] w fun e w' =>
      e = .returned (.tuple #[]) ∧ w.grownBy w' (some B) ∧ Pos w' B T s (backTo s s.size) rest := by
  have c0 := h.c0
  have c1 := h.c1
  have f1 := h.f1
  have HP := Lib.hid h
  have HB := Lib.hid hb
  clear h hb
  go_enter Tryd.func29, Tryd.ntmps29
  go_wp2_with fail
  go_loopw [] (fun wr => ∃ k : Nat, a < k ∧ k ≤ s.size ∧ backTo s k = backTo s s.size ∧ w.grownBy wr (some B) ∧ Pos wr B T s k rest) (fun wr => posOf B wr)
  case atStart => exact ⟨s.size, ha, Nat.le_refl _, rfl, grown_setCell _ ⟨B, 1, none⟩ _, HP.out.set _⟩
  case round =>
    obtain ⟨k, hk1, hk2, hk, hg, hp⟩ := hrel
    obtain ⟨k, rfl⟩ : ∃ j, k = j + 1 := ⟨k - 1, by omega⟩
    have d1 := hp.c1
    have d0 := hp.c0
    have e1 := hp.f1
    have HK := Lib.hid hk
    have HG := Lib.hid hg
    have HQ := Lib.hid hp
    have hz1 : (0 : Int) ≤ (k : Int) := by omega
    have hz2 : (k : Int) < s.size := by omega
    have hkk : k < s.size := by omega
    have hx : s[k].toNat < 256 := UInt8.toNat_lt _
    have HA := Lib.hid (and_cls 1 (.inl rfl) s[k].toNat)
    have HI := Lib.hid (show byt s k = s[k].toNat from byt_in hkk)
    clear hk hg hp
    push_cast at d1
    cases hbk : inCls 1 s[k].toNat
    all_goals
      have hA := HA.out.1
      rw [hbk] at hA
      have HBK := Lib.hid hbk
      clear hbk
    all_goals go_wp2_with fail
    all_goals go_quiet ((go_at_call 45; exact Calls.quiet_of_same ((classOf_any s[k].toNat _ hx).mono fun e w' h => ⟨h.1, h.2.symm⟩)))
    all_goals go_wp2_with fail
    · go_end0
      have e : backTo s (k + 1) = k + 1 := if_neg (by rw [HI.out, show isBlank s[k].toNat = false from HBK.out]; decide)
      exact ⟨rfl, grown_drewN HG.out _, by rw [← HK.out, e]; exact HQ.out⟩
    · have e : backTo s (k + 1) = backTo s k := if_pos (by rw [HI.out]; exact HBK.out)
      have ha2 : a ≠ k := fun h => by
        have h1 := HB.out
        rw [h, HI.out, show isBlank s[k].toNat = true from HBK.out] at h1
        cases h1
      go_roundw
      case rel => exact ⟨k, by omega, by omega, by rw [← e]; exact HK.out, grown_and (grown_drewN HG.out _) (grown_setCell _ ⟨B, 1, none⟩ _) (fun j e => .inr e), (HQ.out.drewN nq).set _⟩
      case measure =>
        rw [posOf_is HQ.out, posOf_is ((HQ.out.drewN nq).set (k : Int))]
        omega

end Go.Proofs.YtnmifeiokhpcfaaDoor
