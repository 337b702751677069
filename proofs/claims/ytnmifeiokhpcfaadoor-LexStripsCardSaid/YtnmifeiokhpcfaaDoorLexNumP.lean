/-
  PACKAGE lex: the numbers of a text are valid: integers from 0 to the greatest one, reals that are not negative.
-/
import Derived.Test.YtnmifeiokhpcfaaDoorLexVA
import Derived.Test.YtnmifeiokhpcfaaDoorLexNumC

namespace Go.Proofs.YtnmifeiokhpcfaaDoor
open Go.RowKit
set_option linter.unusedVariables false

theorem ro_good {m e : Int} (h0 : 0 ≤ m) (h1 : m ≤ 9223372036854775807) (h2 : -2000 ≤ e) (h3 : e ≤ 2000) (hx : re.roX m e = 0) : 0 ≤ re.roM m e ∧ re.vr (re.roM m e) (re.roE m e) = true := by
  have hok : re.rOk m e = true := by
    unfold re.roX at hx
    split at hx
    · assumption
    · cases hx
  have hI : 0 ≤ re.rI m e := by
    unfold re.rI
    split
    · exact Int.le_refl 0
    · rw [if_neg (by omega)]
      exact re.riF_nn m e (by omega) (by omega) h2 h3
  have hb : -2533359615 ≤ re.rI m e ∧ re.rI m e ≤ 2533359615 := by simpa [re.rOk] using hok
  have e1 : re.roM m e = re.aM (re.rI m e) := by unfold re.roM; rw [if_pos hok]
  have e2 : re.roE m e = re.aE (re.rI m e) := by unfold re.roE; rw [if_pos hok]
  rw [e1, e2]
  refine ⟨?_, re.at_vr hb.1 hb.2⟩
  generalize re.rI m e = i at *
  unfold re.aM re.sx re.ab
  (repeat' split) <;> omega

theorem numF_t {l d : List UInt8} {t : Bool} {e : Int} (h : re.numF l = some (t, d, e)) : t = Lib.hasPrefix l [45] := by
  unfold re.numF at h
  split at h
  · cases h
  · split at h
    · split at h
      · cases h
      · split at h
        · cases h
        · cases h; rfl
    · split at h
      · cases h
      · cases h; rfl

theorem prT_good {l : List UInt8} (h0 : Lib.hasPrefix l [45] = false) (hx : (prT l).2.2 = 0) : 0 ≤ (prT l).1 ∧ re.vr (prT l).1 (prT l).2.1 = true := by
  unfold prT at hx ⊢
  cases hf : re.numF l with
  | none => rw [hf] at hx; cases hx
  | some x =>
    obtain ⟨t, d, e⟩ := x
    rw [hf] at hx
    dsimp only at hx ⊢
    split at hx
    · cases hx
    · rename_i hn
      rw [if_neg hn]
      have ht := numF_t hf
      rw [h0] at ht
      subst ht
      obtain ⟨b1, b2, b3, b4⟩ := re.numF_bd hf
      have hb : 0 ≤ re.psM false d e ∧ re.psM false d e ≤ 9223372036854775807 ∧ -2000 ≤ re.psE d e ∧ re.psE d e ≤ 2000 := by
        by_cases hd : d = []
        · subst hd
          rw [re.psM_0, re.psE_0]
          omega
        · rw [re.psM_f d e hd, re.psE_n d e hd]
          have hle : (d.length : Int) + e ≤ 53 := by
            by_cases q : 53 < (d.length : Int) + e
            · exact absurd ⟨hd, q⟩ hn
            · omega
          have hb2 := re.nm_b (re.bs d) e (d.length : Int) (re.nmV d) (by rw [re.bs_size]) (by omega) hle (by rw [re.bs_toList]) (by rw [re.bs_toList]; exact b4)
          obtain ⟨s1, s2, s3, s4⟩ := re.sc_bd (re.nmV d * re.BB ^ 3) e hb2.1 hb2.2
          omega
      exact ro_good hb.1 hb.2.1 hb.2.2.1 hb.2.2.2 hx

/-- a number of a text -/
def numP (t : Tk) : Prop := (∃ (n : Int) (o g : Nat), t = ⟨3, ⟨#[]⟩, n, 0, 0, o, g⟩ ∧ 0 ≤ n ∧ n ≤ 2147483647) ∨ (∃ (m e : Int) (o g : Nat), t = ⟨4, ⟨#[]⟩, 0, m, e, o, g⟩ ∧ 0 ≤ m ∧ re.vr m e = true)

theorem numN_P {s : ByteArray} {a e : Nat} {t : Tk} (hd : isDig (byt s a) = true) (h : numN s a = .ok (e, t)) : numP t := by
  unfold numN at h
  split at h
  · rename_i hc
    have hx0 : 0 < (s.extract a (numEnd s a)).size := by rw [ByteArray.size_extract]; omega
    have hb0 : (s.extract a (numEnd s a))[0].toNat = byt s a := by
      rw [ext_byt hc.2 hx0]
      rfl
    have hdb : 48 ≤ byt s a ∧ byt s a ≤ 57 := by simpa [isDig] using hd
    split at h
    · cases h
    · split at h
      · split at h
        · rename_i he
          cases h
          refine .inl ⟨_, _, _, rfl, ?_⟩
          generalize s.extract a (numEnd s a) = x at *
          have hh : it.head1 x = (x[0].toNat : Int) := by unfold it.head1; rw [dif_pos hx0]
          have hf : it.frm x = 0 := by unfold it.frm; rw [if_neg (by omega)]
          have hn : it.negB x = false := by unfold it.negB; simp; omega
          unfold it.docE it.docV at *
          rw [hf, if_neg (by omega)] at he
          rw [hf, if_neg (by omega), hn]
          unfold it.parE at he
          unfold it.parV
          split at he
          · rename_i ha
            rw [if_pos ha]
            split at he
            · rename_i hl
              rw [if_pos hl]
              have hg : ∀ j, 0 ≤ j → j < x.size → it.dgt x j = true := by
                intro j _ hj
                unfold it.allF at ha
                have := List.all_eq_true.1 ha j (List.mem_range.2 hj)
                simpa using this
              have := it.num_le x 0 x.size (fun j h1 h2 => hg j h1 h2)
              exact ⟨this.1, hl⟩
            · cases he
          · cases he
        · cases h
      · split at h
        · rename_i he
          cases h
          refine .inr ⟨_, _, _, _, rfl, ?_⟩
          refine prT_good ?_ he
          generalize s.extract a (numEnd s a) = x at *
          have hl : x.data.toList[0]? = some x[0] := by rw [List.getElem?_eq_getElem (by rw [← Lib.size_eq]; exact hx0)]; rfl
          cases hq : x.data.toList with
          | nil => rfl
          | cons c r =>
            rw [hq] at hl
            have hc : c = x[0] := by simpa using hl
            have : c ≠ 45 := by
              intro e45
              rw [hc] at e45
              have : x[0].toNat = 45 := by rw [e45]; rfl
              omega
            simp [Lib.hasPrefix, List.isPrefixOf]
            exact fun h => this h.symm
        · cases h
  · cases h

theorem numN_kind {s : ByteArray} : ∀ a e t, numN s a = .ok (e, t) → isEndTk t = false := by
  intro a e t h
  unfold numN at h
  split at h
  · split at h
    · cases h
    · split at h
      · split at h
        · cases h; rfl
        · cases h
      · split at h
        · cases h; rfl
        · cases h
  · cases h

/-- each token of a text is valid -/
theorem valid_good {w : World} {t : Tk} (ht1 : TabAt w w.heap.size 0 wordL) (ht2 : TabAt w w.heap.size 1 signL) (h : GoodTk numP t) :
    ∀ w1, Below w.heap.size w w1 → Calls Tryd.prog 16 #[t.val] w1 fun r w' => r = .returned (.bool true) ∧ Below w1.heap.size w1 w' := by
  intro w1 hb
  have k1 : TabAt w1 w1.heap.size 0 wordL := (ht1.kept hb (Nat.le_refl _)).mono hb.size
  have k2 : TabAt w1 w1.heap.size 1 signL := (ht2.kept hb (Nat.le_refl _)).mono hb.size
  cases h with
  | word x o g hx hc => exact valid_word x o g w1 k1 hx hc
  | name x o g h0 hx => exact valid_name x o g w1 k1 (by omega) hx
  | str x o g h0 hx => exact valid_str x o g w1 k2 h0 hx
  | sign x o g hx => exact valid_sign x o g w1 k2 hx
  | num t hp =>
    rcases hp with ⟨n, o, g, rfl, h0, h1⟩ | ⟨m, e, o, g, rfl, h0, h1⟩
    · exact valid_int n o g w1 h0 h1
    · refine valid_real m e o g w1 h0 fun w2 hb2 => ?_
      have hbd := re.vr_bd h1
      have := re.valid_any m e w2 (by omega) (by omega)
      rw [h1] at this
      exact this

end Go.Proofs.YtnmifeiokhpcfaaDoor
