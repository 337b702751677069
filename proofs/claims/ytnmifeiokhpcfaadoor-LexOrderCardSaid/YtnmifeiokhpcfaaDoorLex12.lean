/-
  PACKAGE lex: readAll.
-/
import Derived.Test.YtnmifeiokhpcfaaDoorLex11

namespace Go.Proofs.YtnmifeiokhpcfaaDoor
open Go.RowKit
set_option linter.unusedVariables false

theorem closer_ge {s : ByteArray} {a : Nat} (h : a ≤ s.size) : a ≤ closer s a ∧ closer s a ≤ s.size := cloN_le _ _ h
theorem toSemi_ge (s : ByteArray) (a : Nat) : a ≤ toSemi s a := upTo_ge _ _ _
theorem size_pos {x : ByteArray} (h : x.toList.isEmpty = false) : 0 < x.size := by
  rcases Nat.eq_zero_or_pos x.size with h1 | h1
  · rw [none_list h1] at h; cases h
  · exact h1
theorem run_gt {s : ByteArray} {a : Nat} (h : isRun (byt s a) = true) : a < upTo isRun s a := by
  have hlt : a < s.size := by
    by_cases h1 : a < s.size
    · exact h1
    · rw [byt_out (by omega)] at h; cases h
  rw [upTo_step hlt h]
  exact upTo_ge _ _ _
theorem tokOut_ok {nf : Num} {s : ByteArray} {a b : Nat} {l l' : List Tk} (hnf : ∀ a e t, nf a = .ok (e, t) → a < e ∧ e ≤ s.size) (ha : a < s.size) (h : tokOut nf s a l = .ok (b, l')) : a < b ∧ b ≤ s.size ∧ ∃ t, l' = l ++ [t] := by
  have hu := upTo_le (f := isRun) (Nat.le_of_lt ha)
  unfold tokOut at h
  split at h
  · unfold numOut at h
    cases hn : nf a with
    | error e => rw [hn] at h; cases h
    | ok p =>
      obtain ⟨e, t⟩ := p
      rw [hn] at h
      have := hnf a e t hn
      simp only [Except.ok.injEq, Prod.mk.injEq] at h
      obtain ⟨rfl, rfl⟩ := h
      exact ⟨this.1, this.2, _, rfl⟩
  · split at h
    · rename_i hr
      have hg := run_gt hr
      unfold wordOut at h
      split at h
      · split at h
        · simp only [Except.ok.injEq, Prod.mk.injEq] at h
          obtain ⟨rfl, rfl⟩ := h
          have := closer_ge hu
          exact ⟨by omega, by omega, _, rfl⟩
        · simp only [Except.ok.injEq, Prod.mk.injEq] at h
          obtain ⟨rfl, rfl⟩ := h
          exact ⟨hg, hu, _, rfl⟩
      · split at h
        · cases h
        · simp only [Except.ok.injEq, Prod.mk.injEq] at h
          obtain ⟨rfl, rfl⟩ := h
          exact ⟨hg, hu, _, rfl⟩
    · split at h
      · unfold strOut at h
        split at h
        · rename_i hq
          split at h
          · cases h
          · simp only [Except.ok.injEq, Prod.mk.injEq] at h
            obtain ⟨rfl, rfl⟩ := h
            have g : a + 1 ≤ strEnd s a := upTo_ge _ _ _
            have g2 : strEnd s a < s.size := by
              by_cases h1 : strEnd s a < s.size
              · exact h1
              · rw [byt_out (by omega)] at hq; omega
            exact ⟨by omega, by omega, _, rfl⟩
        · cases h
      · unfold signOut at h
        split at h
        · cases h
        · rename_i he
          simp only [Except.ok.injEq, Prod.mk.injEq] at h
          obtain ⟨rfl, rfl⟩ := h
          have := size_pos (by simpa using he)
          have := signAt_le (Nat.le_of_lt ha)
          exact ⟨by omega, by omega, _, rfl⟩

/-- what readAll comes to -/
abbrev ScanR := Except (Int × Nat) (List Tk)
def ReadP (w : World) (B : Nat) (s : ByteArray) (o : ScanR) (r : Ending) (w' : World) : Prop :=
  match o with
  | .error (e, i) => r = .panicked (failP e i) ∧ Below B w w'
  | .ok l => r = .returned (.tuple #[]) ∧ Below B w w' ∧ ∃ a st, Sc w' B s a st l

theorem Sc.drewN {w : World} {B : Nat} {s : ByteArray} {a st : Nat} {l : List Tk} (h : Sc w B s a st l) (m : Nat) : Sc (w.drewN m) B s a st l := by
  obtain ⟨v, hp, ho⟩ := h
  exact ⟨v, hp.drewN m, ho⟩
theorem Sc.start {w : World} {B : Nat} {s : ByteArray} {a st : Nat} {l : List Tk} (h : Sc w B s a st l) (i : Nat) : Sc (w.setCell ⟨B, 2, none⟩ (.int .i64 i)) B s a i l := by
  obtain ⟨v, hp, ho⟩ := h
  exact Sc.moved (grown_setCell _ ⟨B, 2, none⟩ _) ho (cells_set hp _)
theorem Sc.facts {w : World} {B : Nat} {s : ByteArray} {a st : Nat} {l : List Tk} (h : Sc w B s a st l) :
    w.cell? ⟨B, 0, none⟩ = some (.string s) ∧ w.cell? ⟨B, 1, none⟩ = some (.int .i64 a) ∧ w.cell? ⟨B, 2, none⟩ = some (.int .i64 st) ∧ w.frozen? ⟨B, 2, none⟩ = false ∧ B < w.heap.size ∧ posOf B w = a ∧
      ∃ v, w.cell? ⟨B, 3, none⟩ = some v ∧ (v = .slice none 0 0 ∧ l.length = 0 ∨ ∃ g c, v = .slice (some ⟨g, 0, none⟩) l.length c) := by
  obtain ⟨v, hp, ho⟩ := h
  refine ⟨hp.c0, hp.c1, cells_get hp, cells_free hp, hp.lt, posOf_is hp, v, cells_get hp, ?_⟩
  rcases ho.2 with ⟨h1, h2⟩ | ⟨g, cap, cur, h1, _⟩
  · exact .inl ⟨h1, h2⟩
  · exact .inr ⟨g, cap, h1⟩

set_option maxRecDepth 100000 in
set_option maxHeartbeats 4000000 in
theorem readAll_any {w : World} {B : Nat} {s : ByteArray} (nf : Num) (h : Sc w B s 0 0 []) (hs : s.size < 4611686018427387904) (ht1 : TabAt w B 0 wordL) (ht2 : TabAt w B 1 signL)
    (hnf : ∀ a e t, nf a = .ok (e, t) → a < e ∧ e ≤ s.size)
    (HN : ∀ a l, a < s.size → l.length < 131072 → isDig (byt s a) = true → ∀ w', Below B w w' → Sc w' B s a a l → TabAt w' B 0 wordL → Calls Tryd.prog 40 #[.pointer (some ⟨B, 0, none⟩)] w' (OutP w' B s a (numOut nf a l))) :
    Calls Tryd.prog 13 #[.pointer (some ⟨B, 0, none⟩)] w (ReadP w B s (scan nf s (s.size + 1) 0 [])) := by
  have HT1 := Lib.hid ht1
  have HT2 := Lib.hid ht2
  have HNN := Lib.hid HN
  have HNF := Lib.hid hnf
  have HS := Lib.hid h
  have hB := h.lt
  obtain ⟨R, hR⟩ : ∃ R, scan nf s (s.size + 1) 0 [] = R := ⟨_, rfl⟩
  rw [hR]
  have HR := Lib.hid hR
  clear ht1 ht2 HN hnf h hR
  go_enter Tryd.func13, Tryd.ntmps13
  go_wp2_with fail
  go_step3
  go_wp2_with fail
  go_step3
  go_wp2_with fail
  go_loopw [] (fun wr => ∃ (n a st : Nat) (l : List Tk), a ≤ s.size ∧ s.size < a + n ∧ l.length ≤ 131072 ∧ scan nf s n a l = R ∧ Below B w wr ∧ Sc wr B s a st l) (fun wr => s.size - posOf B wr)
  case atStart => exact ⟨s.size + 1, 0, 0, [], by omega, by omega, by simp, HR.out, Below.refl _ _, HS.out⟩
  case round =>
    obtain ⟨n, a, st, l, ha, hn, hl, hr, hb, hsc⟩ := hrel
    obtain ⟨n, rfl⟩ : ∃ j, n = j + 1 := ⟨n - 1, by omega⟩
    obtain ⟨v, hp, ho⟩ := hsc
    have HM := Lib.hid (posOf_is hp)
    have hi1 := upTo_ge isBlank s a
    have hi2 := upTo_le (f := isBlank) ha
    have hr2 : (if upTo isBlank s a = s.size then Except.ok l else match stepOut nf s (upTo isBlank s a) l with
      | .error e => .error (e, upTo isBlank s a)
      | .ok (b, l') => scan nf s n b l') = R := hr
    clear hr
    obtain ⟨i, hie⟩ : ∃ i, i = upTo isBlank s a := ⟨_, rfl⟩
    rw [← hie] at hr2 hi1 hi2
    have HIE := Lib.hid hie
    clear hie
    have HK := Lib.hid hr2
    have TK := Lib.hid (take_any 1 (by unfold okCls; simp) hp ha hs)
    rw [show upTo (inCls 1) s a = i from HIE.out.symm] at TK
    have HP := Lib.hid hp
    have HO := Lib.hid ho
    have HB := Lib.hid hb
    have hBr := hp.lt
    clear hr2 hp ho hb
    go_wp2_with fail
    refine TK.out.mono ?_
    rintro r w1 ⟨rfl, hg, hp1⟩
    have S1 := Lib.hid (Sc.moved hg HO.out hp1)
    have B1 := Lib.hid (HB.out.trans (below_grown (Nat.le_of_lt hBr) hg))
    clear hg hp1

    obtain ⟨c0, c1, c2, f2, hB1, _, _⟩ := S1.out.facts
    have SB := Lib.hid (S1.out.start i)
    have BB := Lib.hid (show Below B w (w1.setCell ⟨B, 2, none⟩ (.int .i64 i)) from B1.out.setCell (p := ⟨B, 2, none⟩) (Nat.le_refl _) _)
    have SA := Lib.hid (SB.out.kept ((Below.refl _ _).alloc (Nat.le_refl _) (.cells #[.string s, .int .i64 i] 47)))
    go_wp2_with fail
    obtain ⟨v3, hp3, ho3⟩ := SA.out
    by_cases hi : i = s.size
    · subst hi
      have D := Lib.hid (show ((s.size : Int) == (s.size : Int)) = true from by simp)
      have e : R = .ok l := by rw [← HK.out, if_pos rfl]
      refine (done_is hp3 D.out).mono ?_
      rintro r w2 ⟨rfl, m, rfl⟩
      clear hp3 ho3
      have FS := Lib.hid (show ReadP w B s R (.returned (.tuple #[])) (((w1.setCell ⟨B, 2, none⟩ (.int .i64 s.size)).alloc (.cells #[.string s, .int .i64 s.size] 47)).drewN m) from by
        rw [e]
        exact ⟨rfl, below_drewN (BB.out.alloc (by simp; omega) _) m, _, _, SA.out.drewN m⟩)
      clear e
      go_wp2_with fail
      rw [Exit.noGoto_normal]
      go_end0
      exact FS.out
    · have D := Lib.hid (show ((i : Int) == (s.size : Int)) = false from by simp; omega)
      refine (done_is hp3 D.out).mono ?_
      rintro r w2 ⟨rfl, m, rfl⟩
      clear hp3 ho3
      have hp0 := fresh_pos (w1.setCell ⟨B, 2, none⟩ (.int .i64 i)) 47 s i
      rw [show (w1.setCell ⟨B, 2, none⟩ (.int .i64 i)).heap.size = w1.heap.size from by simp] at hp0
      have FP := Lib.hid (hp0.drewN m)
      clear hp0
      go_wp2_with fail
      refine (take_any 4 (by unfold okCls; simp) FP.out hi2 hs).mono ?_
      rintro r w4 ⟨rfl, hg4, hp4⟩
      have hsz : (w1.setCell ⟨B, 2, none⟩ (.int .i64 i)).heap.size = w1.heap.size := by simp
      have B4 : Below (w1.setCell ⟨B, 2, none⟩ (.int .i64 i)).heap.size (w1.setCell ⟨B, 2, none⟩ (.int .i64 i)) w4 :=
        (below_drewN ((Below.refl (w1.setCell ⟨B, 2, none⟩ (.int .i64 i)).heap.size (w1.setCell ⟨B, 2, none⟩ (.int .i64 i))).alloc (Nat.le_refl _) (.cells #[.string s, .int .i64 i] 47)) m).grown hg4 (by simp) (fun k e => by cases e; rw [hsz]; exact Nat.le_refl _)
      have S4 := Lib.hid (SB.out.kept B4)
      have BB4 := Lib.hid (BB.out.trans (B4.mono (by rw [hsz]; omega)))
      have b0 := hp4.c0
      have b1 := hp4.c1
      clear hg4 hp4 B4 hsz
      have hlt : i < s.size := by omega
      have HK1 : (match stepOut nf s i l with
        | .error e => .error (e, i)
        | .ok (b, l') => scan nf s n b l') = R := by rw [← HK.out, if_neg hi]
      have T1 := Lib.hid (HT1.out.kept BB4.out (Nat.le_refl _))
      have T2 := Lib.hid (HT2.out.kept BB4.out (Nat.le_refl _))
      obtain ⟨x, hx⟩ : ∃ x, x = s.extract i (upTo isRun s i) := ⟨_, rfl⟩
      rw [show s.extract i (upTo (inCls 4) s i) = x from hx.symm]
      rw [stepOut, ← hx] at HK1
      cases hc : (x.toList == comL)
      · rw [hc, if_neg (by simp)] at HK1
        have HC := Lib.hid (show (x.toList == [99, 111, 109, 109, 101, 110, 116]) = false from hc)
        have HK2 := Lib.hid HK1
        clear HK1 hc hx HK
        have hc' := HC.out
        obtain ⟨e0, e1, e2, e3, eB, e4, v4, e5, e6⟩ := S4.out.facts
        by_cases hlen : l.length = 131072
        · have e : R = .error (2, i) := by
            have h := HK2.out
            rw [if_pos hlen] at h
            exact h.symm
          rcases e6 with ⟨_, h0⟩ | ⟨g, c, rfl⟩
          · omega
          · have hL : ((l.length : Int) == 131072) = true := by simp; omega
            have FE := Lib.hid (show ReadP w B s R (.panicked (failP 2 i)) w4 from by rw [e]; exact ⟨rfl, BB4.out⟩)
            clear e
            go_wp2_with fail
            refine (fail_any 2 S4.out).mono ?_
            rintro r w5 ⟨rfl, rfl⟩
            go_wp2_with fail
            first | exact FE.out | exact ⟨rfl, FE.out⟩ | (simp [bodyPost]; exact FE.out) | trace_state
        · have hr3 := HK2.out
          rw [if_neg hlen] at hr3
          have RT := Lib.hid (readToken_any nf S4.out hlt hs (by omega) T1.out T2.out (fun hd w' h0 h1 h2 => HNN.out i l hlt (by omega) hd w' (BB4.out.trans h0) h1 h2))
          have fin : ∀ r w5, OutP w4 B s i (tokOut nf s i l) r w5 → (∃ e, r = .panicked (failP e i) ∧ ReadP w B s R (.panicked (failP e i)) w5) ∨ (∃ b l', r = .returned (.tuple #[]) ∧ i < b ∧ b ≤ s.size ∧ l'.length ≤ 131072 ∧ scan nf s n b l' = R ∧ Below B w w5 ∧ Sc w5 B s b i l') := by
            intro r w5 hO
            cases ht : tokOut nf s i l with
            | error e =>
              rw [ht] at hO hr3
              obtain ⟨rfl, hb5⟩ := hO
              exact .inl ⟨e, rfl, by rw [← hr3]; exact ⟨rfl, BB4.out.trans hb5⟩⟩
            | ok p =>
              obtain ⟨b, l'⟩ := p
              rw [ht] at hO hr3
              obtain ⟨rfl, hb5, hs5⟩ := hO
              obtain ⟨h1, h2, t, rfl⟩ := tokOut_ok HNF.out hlt ht
              exact .inr ⟨b, _, rfl, h1, h2, by simp; omega, hr3, BB4.out.trans hb5, hs5⟩
          have FIN := Lib.hid fin
          clear fin hr3
          have hL : ((l.length : Int) == 131072) = false := by simp; omega
          have hL0 : ((0 : Int) == 131072) = false := by decide
          rcases e6 with ⟨rfl, h0⟩ | ⟨g, c, rfl⟩
          all_goals
            go_wp2_with fail
            refine RT.out.mono ?_
            intro r w5 hO
            rcases FIN.out r w5 hO with ⟨e, rfl, hF⟩ | ⟨b, l', rfl, hb1, hb2, hb3, hb4, hb5, hb6⟩
          · have FE := Lib.hid hF
            clear hF hO
            go_wp2_with fail
            first | exact FE.out | exact ⟨rfl, FE.out⟩ | (simp [bodyPost]; exact FE.out) | trace_state
          · have H4 := Lib.hid hb4
            have H5 := Lib.hid hb5
            have H6 := Lib.hid hb6
            clear hb4 hb5 hb6 hO
            go_wp2_with fail
            go_roundw
            case rel => exact ⟨n, b, i, l', hb2, by omega, hb3, H4.out, H5.out, H6.out⟩
            case measure =>
              obtain ⟨_, _, _, _, _, e, _⟩ := H6.out.facts
              rw [HM.out, e]
              omega
          · have FE := Lib.hid hF
            clear hF hO
            go_wp2_with fail
            first | exact FE.out | exact ⟨rfl, FE.out⟩ | (simp [bodyPost]; exact FE.out) | trace_state
          · have H4 := Lib.hid hb4
            have H5 := Lib.hid hb5
            have H6 := Lib.hid hb6
            clear hb4 hb5 hb6 hO
            go_wp2_with fail
            go_roundw
            case rel => exact ⟨n, b, i, l', hb2, by omega, hb3, H4.out, H5.out, H6.out⟩
            case measure =>
              obtain ⟨_, _, _, _, _, e, _⟩ := H6.out.facts
              rw [HM.out, e]
              omega
      · rw [hc, if_pos rfl] at HK1
        have HC := Lib.hid (show (x.toList == [99, 111, 109, 109, 101, 110, 116]) = true from hc)
        have HK2 := Lib.hid HK1
        clear HK1 hc hx HK
        have hc' := HC.out
        by_cases hm : mayCom l = true
        · by_cases hsm : toSemi s i < s.size
          · have hr3 := HK2.out
            rw [if_pos ⟨hm, hsm⟩] at hr3
            have HK3 := Lib.hid hr3
            clear hr3
            go_wp2_with fail
            refine (readComment_ok S4.out hl hm (Nat.le_of_lt hlt) hs hsm).mono ?_
            rintro r w5 ⟨rfl, hb5, hs5⟩
            have HB5 := Lib.hid (BB4.out.trans hb5)
            have HS5 := Lib.hid hs5
            clear hb5 hs5
            have hts := toSemi_ge s i
            go_wp2_with fail
            go_roundw
            case rel => exact ⟨n, toSemi s i + 1, i, l, by omega, by omega, hl, HK3.out, HB5.out, HS5.out⟩
            case measure =>
              obtain ⟨_, _, _, _, _, e, _⟩ := HS5.out.facts
              rw [HM.out, e]
              omega
          · have e : R = .error (7, i) := by
              have h := HK2.out
              rw [if_neg (fun h => hsm h.2)] at h
              exact h.symm
            go_wp2_with fail
            refine (readComment_open S4.out hl hm (Nat.le_of_lt hlt) hs hsm).mono ?_
            rintro r w5 ⟨rfl, hb5⟩
            have HB5 := Lib.hid (show ReadP w B s R (.panicked (failP 7 i)) w5 from by rw [e]; exact ⟨rfl, BB4.out.trans hb5⟩)
            clear hb5 e
            go_wp2_with fail
            first | exact HB5.out | exact ⟨rfl, HB5.out⟩ | (simp [bodyPost]; exact HB5.out) | trace_state
        · have e : R = .error (7, i) := by
            have h := HK2.out
            rw [if_neg (fun h => hm h.1)] at h
            exact h.symm
          go_wp2_with fail
          refine (readComment_no S4.out hl (by simpa using hm)).mono ?_
          rintro r w5 ⟨rfl, hb5⟩
          have HB5 := Lib.hid (show ReadP w B s R (.panicked (failP 7 i)) w5 from by rw [e]; exact ⟨rfl, BB4.out.trans hb5⟩)
          clear hb5 e
          go_wp2_with fail
          first | exact HB5.out | exact ⟨rfl, HB5.out⟩ | (simp [bodyPost]; exact HB5.out) | trace_state

end Go.Proofs.YtnmifeiokhpcfaaDoor
