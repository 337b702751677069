/-
  PACKAGE lex: readSign; numbers that are no numbers.
-/
import Derived.Test.YtnmifeiokhpcfaaDoorLex8

namespace Go.Proofs.YtnmifeiokhpcfaaDoor
open Go.RowKit
set_option linter.unusedVariables false

/-- the longest of the signs with which a text begins -/
def lgs (r : List UInt8) : List ByteArray → ByteArray → ByteArray
  | [], b => b
  | x :: l, b => lgs r l (if (b.size : Int) < x.size ∧ Lib.hasPrefix r x.data.toList = true then x else b)
def signAt (s : ByteArray) (a : Nat) : ByteArray := lgs (s.data.toList.drop a) signL ⟨#[]⟩
theorem lgs_le (r : List UInt8) (l : List ByteArray) (b : ByteArray) (hb : b.size ≤ r.length) : (lgs r l b).size ≤ r.length := by
  induction l generalizing b with
  | nil => exact hb
  | cons x l ih =>
    unfold lgs
    apply ih
    split
    · rename_i h
      have h1 : x.data.toList <+: r := by
        have := h.2
        unfold Lib.hasPrefix at this
        simpa using this
      have := h1.length_le
      simpa using this
    · exact hb
theorem signAt_le {s : ByteArray} {a : Nat} (h : a ≤ s.size) : a + (signAt s a).size ≤ s.size := by
  have := lgs_le (s.data.toList.drop a) signL ⟨#[]⟩ (Nat.zero_le _)
  have e : (s.data.toList.drop a).length = s.size - a := by simp
  rw [e] at this
  unfold signAt
  omega
theorem lgs_step (r : List UInt8) (l : List ByteArray) (k : Nat) (hk : k < l.length) (b : ByteArray) :
    lgs r (l.drop k) b = lgs r (l.drop (k + 1)) (if (b.size : Int) < (l.getD k ByteArray.empty).size ∧ Lib.hasPrefix r (l.getD k ByteArray.empty).data.toList = true then l.getD k ByteArray.empty else b) := by
  rw [List.drop_eq_getElem_cons hk, lgs]
  simp [List.getD, hk]
theorem prefix_call (s x : ByteArray) (a : Nat) (w : World) :
    Calls Tryd.prog 55 #[.string (s.extract a s.size), .string x] w fun e w' => e = .returned (.bool (Lib.hasPrefix (s.data.toList.drop a) x.data.toList)) ∧ w' = w := by
  have h := Tryd.strings_HasPrefix (s.extract a s.size) x w
  rw [extract_list] at h
  exact h

set_option maxRecDepth 100000 in
set_option maxHeartbeats 1600000 in
theorem readSign_bad {w : World} {B : Nat} {s : ByteArray} {a st : Nat} {l : List Tk} (h : Sc w B s a st l) (ha : a ≤ s.size) (hs : s.size < 4611686018427387904) (hl : l.length < 131072) (ht : TabAt w B 1 signL) (hx : (signAt s a).toList.isEmpty = true) :
    Calls Tryd.prog 44 #[.pointer (some ⟨B, 0, none⟩)] w fun r w' => r = .panicked (failP 7 st) ∧ Below B w w' := by
  obtain ⟨v, hp, ho⟩ := h
  obtain ⟨g, go, gc, t1, t2, t3, t4⟩ := ht
  have hB := hp.lt
  have c0 := hp.c0
  have c1 := hp.c1
  have f1 := hp.f1
  have HP := Lib.hid hp
  have HO := Lib.hid ho
  have T2 := Lib.hid t2
  have hsl := signAt_le ha
  have hnl : (signL.length : Int) ≤ 100 := by decide
  have hz1 : (0 : Int) ≤ a := by omega
  have hz2 : (a : Int) ≤ s.size := by omega
  have hR : lgs (s.data.toList.drop a) (signL.drop 0) ⟨#[]⟩ = signAt s a := rfl
  have HR := Lib.hid hR
  have HL := Lib.hid (show (s.data.toList.drop a).length = s.size - a from by simp)
  have PC := Lib.hid (prefix_call s · a)
  have LS := Lib.hid (lgs_step (s.data.toList.drop a) signL)
  have LE := Lib.hid (fun (x : ByteArray) (h : Lib.hasPrefix (s.data.toList.drop a) x.data.toList = true) => show x.size ≤ s.size - a from by
    have h1 : x.data.toList <+: s.data.toList.drop a := by unfold Lib.hasPrefix at h; simpa using h
    have := h1.length_le
    simpa using this)
  clear hp ho t2 hR
  generalize hn : signL.length = n at *
  have HN := Lib.hid hn
  clear hn
  go_enter Tryd.func44, Tryd.ntmps44
  go_wp2_with fail
  go_loopw [2, 7] (fun lg i wr => ∃ (k : Nat) (b : ByteArray) (m : Nat), k ≤ n ∧ lg = .string b ∧ i = .int .i64 k ∧ lgs (s.data.toList.drop a) (signL.drop k) b = signAt s a ∧ wr = w.drewN m) (fun _ i _ => n - (intOf i).toNat)
  case atStart => exact ⟨0, ⟨#[]⟩, 0, Nat.zero_le _, rfl, rfl, HR.out, rfl⟩
  case round =>
    obtain ⟨k, b, m, hk, rfl, rfl, hr, hm⟩ := hrel
    have HK := Lib.hid hr
    have d0 : wr.cell? ⟨B, 0, none⟩ = some (.string s) := by rw [hm]; exact c0
    have d1 : wr.cell? ⟨B, 1, none⟩ = some (.int .i64 a) := by rw [hm]; exact c1
    have T3 := Lib.hid (show ∀ j, j < n → wr.cell? ⟨g, go + j, none⟩ = some (.string (signL.getD j ByteArray.empty)) from fun j hj => by rw [hm]; exact T2.out j hj)
    have HM := Lib.hid hm
    clear hr hm
    by_cases hlt : k < n
    · have hx := T3.out k hlt
      have L1 := Lib.hid (LS.out k hlt b)
      generalize hxx : signL.getD k ByteArray.empty = x at *
      clear hxx
      have hi0 : (0 : Int) ≤ k := by omega
      have hi1 : (k : Int) < n := by omega
      by_cases hgt : (b.size : Int) < x.size
      · have hgn : b.size < x.size := by omega
        cases hpf : Lib.hasPrefix (s.data.toList.drop a) x.data.toList
        · have L2 := Lib.hid (show lgs (s.data.toList.drop a) (signL.drop (k + 1)) b = signAt s a from by rw [← HK.out, L1.out, if_neg (by simp [hpf])])
          have P1 := Lib.hid (PC.out x)
          rw [hpf] at P1
          clear hpf
          go_wp2_with fail
          go_quiet ((go_at_call 55; exact Calls.quiet_of_same (P1.out _)))
          go_wp2_with fail
          go_roundw
          case rel => exact ⟨k + 1, b, m + nq, by omega, rfl, by go_num, L2.out, by rw [HM.out, World.drewN_drewN]⟩
          case measure => simp [intOf]; omega
        · have L2 := Lib.hid (show lgs (s.data.toList.drop a) (signL.drop (k + 1)) x = signAt s a from by rw [← HK.out, L1.out, if_pos ⟨hgt, hpf⟩])
          have P1 := Lib.hid (PC.out x)
          rw [hpf] at P1
          clear hpf
          go_wp2_with fail
          go_quiet ((go_at_call 55; exact Calls.quiet_of_same (P1.out _)))
          go_wp2_with fail
          go_roundw
          case rel => exact ⟨k + 1, x, m + nq, by omega, rfl, by go_num, L2.out, by rw [HM.out, World.drewN_drewN]⟩
          case measure => simp [intOf]; omega
      · have L2 := Lib.hid (show lgs (s.data.toList.drop a) (signL.drop (k + 1)) b = signAt s a from by rw [← HK.out, L1.out, if_neg (fun h => hgt h.1)])
        have hgf : decide ((b.size : Int) < x.size) = false := decide_eq_false hgt
        have hgn : ¬ b.size < x.size := by omega
        have hgg : decide (b.size < x.size) = false := decide_eq_false hgn
        go_wp2_with fail
        go_quiet (fail)
        go_wp2_with fail
        go_roundw
        case rel => exact ⟨k + 1, b, m + nq, by omega, rfl, by go_num, L2.out, by rw [HM.out, World.drewN_drewN]⟩
        case measure => simp [intOf]; omega
    · have hb : b = signAt s a := by
        have h1 := HK.out
        have e0 : signL.drop k = [] := List.drop_eq_nil_of_le (by have := HN.out; omega)
        rw [e0] at h1
        exact h1
      have hxb := hx
      rw [← hb] at hxb
      have hsb := hsl
      rw [← hb] at hsb
      have HBB := Lib.hid hb
      clear hx hsl hb HR LE LS PC HL
      have hm := HM.out
      subst hm
      have H1 := Lib.hid (show Sc (w.drewN m) B s a st l from ⟨v, HP.out.drewN m, HO.out⟩)
      have HB := Lib.hid (show Below B w (w.drewN m) from (below_drewN (Below.refl _ _) m))
      go_wp2_with fail
      refine (fail_any 7 H1.out).mono ?_
      rintro r w' ⟨rfl, rfl⟩
      go_wp2_with fail
      first | exact ⟨rfl, HB.out⟩ | exact ⟨rfl, rfl, HB.out⟩ | (simp [bodyPost]; exact HB.out) | trace_state

set_option maxRecDepth 100000 in
set_option maxHeartbeats 1600000 in
theorem readSign_ok {w : World} {B : Nat} {s : ByteArray} {a st : Nat} {l : List Tk} (h : Sc w B s a st l) (ha : a ≤ s.size) (hs : s.size < 4611686018427387904) (hl : l.length < 131072) (ht : TabAt w B 1 signL) (hx : (signAt s a).toList.isEmpty = false) :
    Calls Tryd.prog 44 #[.pointer (some ⟨B, 0, none⟩)] w fun r w' => r = .returned (.tuple #[]) ∧ Below B w w' ∧ Sc w' B s (a + (signAt s a).size) st (l ++ [(⟨6, signAt s a, 0, 0, 0, st, a + (signAt s a).size⟩ : Tk)]) := by
  obtain ⟨v, hp, ho⟩ := h
  obtain ⟨g, go, gc, t1, t2, t3, t4⟩ := ht
  have hB := hp.lt
  have c0 := hp.c0
  have c1 := hp.c1
  have f1 := hp.f1
  have HP := Lib.hid hp
  have HO := Lib.hid ho
  have T2 := Lib.hid t2
  have hsl := signAt_le ha
  have hnl : (signL.length : Int) ≤ 100 := by decide
  have hz1 : (0 : Int) ≤ a := by omega
  have hz2 : (a : Int) ≤ s.size := by omega
  have hR : lgs (s.data.toList.drop a) (signL.drop 0) ⟨#[]⟩ = signAt s a := rfl
  have HR := Lib.hid hR
  have HL := Lib.hid (show (s.data.toList.drop a).length = s.size - a from by simp)
  have PC := Lib.hid (prefix_call s · a)
  have LS := Lib.hid (lgs_step (s.data.toList.drop a) signL)
  have LE := Lib.hid (fun (x : ByteArray) (h : Lib.hasPrefix (s.data.toList.drop a) x.data.toList = true) => show x.size ≤ s.size - a from by
    have h1 : x.data.toList <+: s.data.toList.drop a := by unfold Lib.hasPrefix at h; simpa using h
    have := h1.length_le
    simpa using this)
  clear hp ho t2 hR
  generalize hn : signL.length = n at *
  have HN := Lib.hid hn
  clear hn
  go_enter Tryd.func44, Tryd.ntmps44
  go_wp2_with fail
  go_loopw [2, 7] (fun lg i wr => ∃ (k : Nat) (b : ByteArray) (m : Nat), k ≤ n ∧ lg = .string b ∧ i = .int .i64 k ∧ lgs (s.data.toList.drop a) (signL.drop k) b = signAt s a ∧ wr = w.drewN m) (fun _ i _ => n - (intOf i).toNat)
  case atStart => exact ⟨0, ⟨#[]⟩, 0, Nat.zero_le _, rfl, rfl, HR.out, rfl⟩
  case round =>
    obtain ⟨k, b, m, hk, rfl, rfl, hr, hm⟩ := hrel
    have HK := Lib.hid hr
    have d0 : wr.cell? ⟨B, 0, none⟩ = some (.string s) := by rw [hm]; exact c0
    have d1 : wr.cell? ⟨B, 1, none⟩ = some (.int .i64 a) := by rw [hm]; exact c1
    have T3 := Lib.hid (show ∀ j, j < n → wr.cell? ⟨g, go + j, none⟩ = some (.string (signL.getD j ByteArray.empty)) from fun j hj => by rw [hm]; exact T2.out j hj)
    have HM := Lib.hid hm
    clear hr hm
    by_cases hlt : k < n
    · have hx := T3.out k hlt
      have L1 := Lib.hid (LS.out k hlt b)
      generalize hxx : signL.getD k ByteArray.empty = x at *
      clear hxx
      have hi0 : (0 : Int) ≤ k := by omega
      have hi1 : (k : Int) < n := by omega
      by_cases hgt : (b.size : Int) < x.size
      · have hgn : b.size < x.size := by omega
        cases hpf : Lib.hasPrefix (s.data.toList.drop a) x.data.toList
        · have L2 := Lib.hid (show lgs (s.data.toList.drop a) (signL.drop (k + 1)) b = signAt s a from by rw [← HK.out, L1.out, if_neg (by simp [hpf])])
          have P1 := Lib.hid (PC.out x)
          rw [hpf] at P1
          clear hpf
          go_wp2_with fail
          go_quiet ((go_at_call 55; exact Calls.quiet_of_same (P1.out _)))
          go_wp2_with fail
          go_roundw
          case rel => exact ⟨k + 1, b, m + nq, by omega, rfl, by go_num, L2.out, by rw [HM.out, World.drewN_drewN]⟩
          case measure => simp [intOf]; omega
        · have L2 := Lib.hid (show lgs (s.data.toList.drop a) (signL.drop (k + 1)) x = signAt s a from by rw [← HK.out, L1.out, if_pos ⟨hgt, hpf⟩])
          have P1 := Lib.hid (PC.out x)
          rw [hpf] at P1
          clear hpf
          go_wp2_with fail
          go_quiet ((go_at_call 55; exact Calls.quiet_of_same (P1.out _)))
          go_wp2_with fail
          go_roundw
          case rel => exact ⟨k + 1, x, m + nq, by omega, rfl, by go_num, L2.out, by rw [HM.out, World.drewN_drewN]⟩
          case measure => simp [intOf]; omega
      · have L2 := Lib.hid (show lgs (s.data.toList.drop a) (signL.drop (k + 1)) b = signAt s a from by rw [← HK.out, L1.out, if_neg (fun h => hgt h.1)])
        have hgf : decide ((b.size : Int) < x.size) = false := decide_eq_false hgt
        have hgn : ¬ b.size < x.size := by omega
        have hgg : decide (b.size < x.size) = false := decide_eq_false hgn
        go_wp2_with fail
        go_quiet (fail)
        go_wp2_with fail
        go_roundw
        case rel => exact ⟨k + 1, b, m + nq, by omega, rfl, by go_num, L2.out, by rw [HM.out, World.drewN_drewN]⟩
        case measure => simp [intOf]; omega
    · have hb : b = signAt s a := by
        have h1 := HK.out
        have e0 : signL.drop k = [] := List.drop_eq_nil_of_le (by have := HN.out; omega)
        rw [e0] at h1
        exact h1
      have hxb := hx
      rw [← hb] at hxb
      have hsb := hsl
      rw [← hb] at hsb
      have HBB := Lib.hid hb
      clear hx hsl hb HR LE LS PC HL
      have hm := HM.out
      subst hm
      have H1 := Lib.hid (show Sc ((w.drewN m).setCell ⟨B, 1, none⟩ (.int .i64 ((a + b.size : Nat) : Int))) B s (a + b.size) st l from
        Sc.moved (grown_setCell _ ⟨B, 1, none⟩ _) (show (w.drewN m).ownsRow (B + 1) 37 7 v l.length (cellsOf l) from HO.out) ((HP.out.drewN m).set _))
      push_cast at H1
      have HB := Lib.hid (show Below B w ((w.drewN m).setCell ⟨B, 1, none⟩ (.int .i64 ((a : Int) + b.size))) from (below_drewN (Below.refl _ _) m).setCell (p := ⟨B, 1, none⟩) (Nat.le_refl _) _)
      go_wp2_with fail
      refine (add_any ⟨6, b, 0, 0, 0, 0, 0⟩ H1.out hl).mono ?_
      rintro r w2 ⟨rfl, hb2, h2⟩
      have HB2 := Lib.hid (HB.out.trans hb2)
      have H2 := Lib.hid h2
      clear hb2 h2
      go_wp2_with fail
      go_end0
      refine ⟨rfl, HB2.out, ?_⟩
      have h2 : Sc w2 B s (a + b.size) st (l ++ [(⟨6, b, 0, 0, 0, st, a + b.size⟩ : Tk)]) := H2.out
      rw [HBB.out] at h2
      exact h2

end Go.Proofs.YtnmifeiokhpcfaaDoor
