/-
  PACKAGE lex: readComment, IsWord, passBehindEnd, readWord, readString.
-/
import Derived.Test.YtnmifeiokhpcfaaDoorLex6

namespace Go.Proofs.YtnmifeiokhpcfaaDoor
open Go.RowKit
set_option linter.unusedVariables false

/-- the reserved words, the signs -/
def wordL : List ByteArray := [⟨#[98, 101, 103, 105, 110]⟩, ⟨#[101, 110, 100]⟩, ⟨#[105, 102]⟩, ⟨#[116, 104, 101, 110]⟩, ⟨#[101, 108, 115, 101]⟩, ⟨#[102, 111, 114]⟩, ⟨#[100, 111]⟩, ⟨#[115, 116, 101, 112]⟩, ⟨#[117, 110, 116, 105, 108]⟩, ⟨#[119, 104, 105, 108, 101]⟩, ⟨#[103, 111, 116, 111]⟩, ⟨#[111, 119, 110]⟩, ⟨#[105, 110, 116, 101, 103, 101, 114]⟩, ⟨#[114, 101, 97, 108]⟩, ⟨#[98, 111, 111, 108, 101, 97, 110]⟩, ⟨#[97, 114, 114, 97, 121]⟩, ⟨#[115, 119, 105, 116, 99, 104]⟩, ⟨#[112, 114, 111, 99, 101, 100, 117, 114, 101]⟩, ⟨#[118, 97, 108, 117, 101]⟩, ⟨#[108, 97, 98, 101, 108]⟩, ⟨#[115, 116, 114, 105, 110, 103]⟩, ⟨#[116, 114, 117, 101]⟩, ⟨#[102, 97, 108, 115, 101]⟩, ⟨#[99, 111, 109, 109, 101, 110, 116]⟩, ⟨#[110, 111, 116]⟩, ⟨#[97, 110, 100]⟩, ⟨#[111, 114]⟩, ⟨#[105, 109, 112]⟩, ⟨#[101, 113, 118]⟩]
def signL : List ByteArray := [⟨#[43]⟩, ⟨#[45]⟩, ⟨#[42]⟩, ⟨#[47]⟩, ⟨#[47, 47]⟩, ⟨#[94]⟩, ⟨#[60]⟩, ⟨#[60, 61]⟩, ⟨#[61]⟩, ⟨#[47, 61]⟩, ⟨#[62, 61]⟩, ⟨#[62]⟩, ⟨#[58, 61]⟩, ⟨#[58]⟩, ⟨#[59]⟩, ⟨#[44]⟩, ⟨#[40]⟩, ⟨#[41]⟩, ⟨#[91]⟩, ⟨#[93]⟩]
/-- they lie in memory, below B -/
def TabAt (w : World) (B k : Nat) (l : List ByteArray) : Prop :=
  ∃ g o c, w.cell? ⟨k, 0, none⟩ = some (.slice (some ⟨g, o, none⟩) l.length c) ∧ (∀ j, j < l.length → w.cell? ⟨g, o + j, none⟩ = some (.string (l.getD j ByteArray.empty))) ∧ k < B ∧ g < B
theorem TabAt.kept {w w' : World} {B B' k : Nat} {l : List ByteArray} (h : TabAt w B k l) (hb : Below B' w w') (hB : B ≤ B') : TabAt w' B k l := by
  obtain ⟨g, o, c, h1, h2, h3, h4⟩ := h
  exact ⟨g, o, c, (hb.cell (p := ⟨k, 0, none⟩) (by simp; omega)).trans h1, fun j hj => (hb.cell (p := ⟨g, o + j, none⟩) (by simp; omega)).trans (h2 j hj), h3, h4⟩

theorem isWord_any {w : World} {B : Nat} (x : ByteArray) (h : TabAt w B 0 wordL) :
    Calls Tryd.prog 32 #[.string x] w fun r w' => r = .returned (.bool (Lib.containsS wordL x)) ∧ w = w' := by
  obtain ⟨g, o, c, h1, h2, h3, h4⟩ := h
  have hc : Lib.containsS (wordL.take wordL.length) x = Lib.containsS wordL x := by rw [List.take_length]
  have HC := Lib.hid (Tryd.slices_Contains_string g o wordL.length c wordL x w (Nat.le_refl _) (by decide) h2)
  rw [hc] at HC
  clear hc h2
  generalize wordL.length = n at *
  generalize Lib.containsS wordL x = b at *
  go_enter Tryd.func32, Tryd.ntmps32
  go_wp2_with fail
  refine HC.out.mono ?_
  rintro r w' ⟨rfl, rfl⟩
  go_wp2_with fail
  go_ret
  exact ⟨rfl, rfl⟩

theorem readComment_no {w : World} {B : Nat} {s : ByteArray} {a st : Nat} {l : List Tk} (h : Sc w B s a st l) (hl : l.length ≤ 131072) (hm : mayCom l = false) :
    Calls Tryd.prog 25 #[.pointer (some ⟨B, 0, none⟩)] w fun r w' => r = .panicked (failP 7 st) ∧ Below B w w' := by
  have HS := Lib.hid h
  have HM := Lib.hid (mayComment_any h hl)
  rw [hm] at HM
  have hB := h.lt
  clear h hm
  go_enter Tryd.func25, Tryd.ntmps25
  go_wp2_with fail
  refine HM.out.mono ?_
  rintro r w1 ⟨rfl, hb1⟩
  have HB := Lib.hid (hb1.mono (Nat.le_of_lt hB))
  have H1 := Lib.hid (HS.out.kept hb1)
  clear hb1
  go_wp2_with fail
  refine (fail_any 7 H1.out).mono ?_
  rintro r w' ⟨rfl, rfl⟩
  go_wp2_with fail
  first | exact ⟨rfl, HB.out⟩ | exact ⟨rfl, rfl, HB.out⟩ | (simp [bodyPost]; exact HB.out) | trace_state

theorem readComment_open {w : World} {B : Nat} {s : ByteArray} {a st : Nat} {l : List Tk} (h : Sc w B s a st l) (hl : l.length ≤ 131072) (hm : mayCom l = true) (ha : a ≤ s.size) (hs : s.size < 4611686018427387904) (hx : ¬ toSemi s a < s.size) :
    Calls Tryd.prog 25 #[.pointer (some ⟨B, 0, none⟩)] w fun r w' => r = .panicked (failP 7 st) ∧ Below B w w' := by
  have HS := Lib.hid h
  have HM := Lib.hid (mayComment_any h hl)
  rw [hm] at HM
  have hB := h.lt
  have HX := Lib.hid (decide_eq_false hx)
  clear h hm hx
  go_enter Tryd.func25, Tryd.ntmps25
  go_wp2_with fail
  refine HM.out.mono ?_
  rintro r w1 ⟨rfl, hb1⟩
  have HB1 := Lib.hid (hb1.mono (Nat.le_of_lt hB))
  have H1 := Lib.hid (HS.out.kept hb1)
  clear hb1
  go_wp2_with fail
  obtain ⟨v, hp, ho⟩ := H1.out
  refine (passComment_any hp ha hs).mono ?_
  rintro r w2 ⟨rfl, hg, hp2⟩
  rw [HX.out]
  have H2 := Lib.hid (Sc.moved hg ho hp2)
  have HB := Lib.hid (HB1.out.trans (below_grown (Nat.le_of_lt hp.lt) hg))
  clear hp ho hg hp2
  go_wp2_with fail
  refine (fail_any 7 H2.out).mono ?_
  rintro r w' ⟨rfl, rfl⟩
  go_wp2_with fail
  first | exact ⟨rfl, HB.out⟩ | exact ⟨rfl, rfl, HB.out⟩ | (simp [bodyPost]; exact HB.out) | trace_state

theorem readComment_ok {w : World} {B : Nat} {s : ByteArray} {a st : Nat} {l : List Tk} (h : Sc w B s a st l) (hl : l.length ≤ 131072) (hm : mayCom l = true) (ha : a ≤ s.size) (hs : s.size < 4611686018427387904) (hx : toSemi s a < s.size) :
    Calls Tryd.prog 25 #[.pointer (some ⟨B, 0, none⟩)] w fun r w' => r = .returned (.tuple #[]) ∧ Below B w w' ∧ Sc w' B s (toSemi s a + 1) st l := by
  have HS := Lib.hid h
  have HM := Lib.hid (mayComment_any h hl)
  rw [hm] at HM
  have hB := h.lt
  have HX := Lib.hid (decide_eq_true hx)
  have HY := Lib.hid (show semiAt s a = toSemi s a + 1 from if_pos hx)
  clear h hm hx
  go_enter Tryd.func25, Tryd.ntmps25
  go_wp2_with fail
  refine HM.out.mono ?_
  rintro r w1 ⟨rfl, hb1⟩
  have HB1 := Lib.hid (hb1.mono (Nat.le_of_lt hB))
  have H1 := Lib.hid (HS.out.kept hb1)
  clear hb1
  go_wp2_with fail
  obtain ⟨v, hp, ho⟩ := H1.out
  refine (passComment_any hp ha hs).mono ?_
  rintro r w2 ⟨rfl, hg, hp2⟩
  rw [HX.out]
  rw [HY.out] at hp2
  have H2 := Lib.hid (Sc.moved hg ho hp2)
  have HB := Lib.hid (HB1.out.trans (below_grown (Nat.le_of_lt hp.lt) hg))
  clear hp ho hg hp2
  go_wp2_with fail
  go_end0
  exact ⟨rfl, HB.out, H2.out⟩

/-- where reading goes on behind the word end -/
def stops (x : List UInt8) : Bool := x == [101, 110, 100] || x == [101, 108, 115, 101]
def cloN (s : ByteArray) : Nat → Nat → Nat
  | 0, a => a
  | n + 1, a => if a < s.size ∧ byt s a ≠ 59 then (if stops (s.extract a (upTo isRun s a)).toList then a else cloN s n (if isRun (byt s a) then upTo isRun s a else a + 1)) else a
def closer (s : ByteArray) (a : Nat) : Nat := cloN s (s.size + 1) a
theorem cloN_le {s : ByteArray} (n a : Nat) (h : a ≤ s.size) : a ≤ cloN s n a ∧ cloN s n a ≤ s.size := by
  induction n generalizing a with
  | zero => exact ⟨Nat.le_refl _, h⟩
  | succ n ih =>
    unfold cloN
    split
    · split
      · exact ⟨Nat.le_refl _, h⟩
      · rename_i h1 _
        have g := upTo_ge isRun s a
        have g2 := upTo_le (f := isRun) h
        split
        · have := ih (upTo isRun s a) g2; omega
        · have := ih (a + 1) (by omega); omega
    · exact ⟨Nat.le_refl _, h⟩

set_option maxHeartbeats 1600000 in
theorem passBehindEnd_any {w : World} {B : Nat} {s : ByteArray} {a st : Nat} {l : List Tk} (h : Sc w B s a st l) (ha : a ≤ s.size) (hs : s.size < 4611686018427387904) :
    Calls Tryd.prog 53 #[.pointer (some ⟨B, 0, none⟩)] w fun r w' => r = .returned (.tuple #[]) ∧ Below B w w' ∧ Sc w' B s (closer s a) st l := by
  obtain ⟨v, hp, ho⟩ := h
  have HP := Lib.hid hp
  have HO := Lib.hid ho
  have hB := hp.lt
  clear hp ho
  go_enter Tryd.func53, Tryd.ntmps53
  go_wp2_with fail
  go_step3
  go_wp2_with fail
  go_step3
  go_wp2_with fail
  go_loopw [] (fun wr => ∃ k n : Nat, k ≤ s.size ∧ s.size < k + n ∧ cloN s n k = closer s a ∧ w.grownBy wr (some B) ∧ Pos wr B 49 s k [.int .i64 st, v]) (fun wr => s.size - posOf B wr)
  case atStart => exact ⟨a, s.size + 1, ha, by omega, rfl, grown_refl _ _, HP.out⟩
  case round =>
    obtain ⟨k, n, hk, hn, hc, hg, hp⟩ := hrel
    have HC := Lib.hid hc
    have HG := Lib.hid hg
    have HQ := Lib.hid hp
    have d1 := hp.c1
    have d0 := hp.c0
    have e0 : wr.frozen? ⟨B, 0, none⟩ = false := cells_free hp
    have e1 := hp.f1
    have hBr := hp.lt
    clear hc hg hp
    obtain ⟨n, rfl⟩ : ∃ j, n = j + 1 := ⟨n - 1, by omega⟩
    have fin : ∀ W, w.grownBy W (some B) → Pos W B 49 s k [.int .i64 st, v] → closer s a = k → Below B w W ∧ Sc W B s (closer s a) st l := by
      intro W g p e
      exact ⟨below_grown (Nat.le_of_lt hB) g, Sc.moved g HO.out (by rw [e]; exact p)⟩
    have FIN := Lib.hid fin
    clear fin
    by_cases hlt : k < s.size
    · have D0 := Lib.hid (show ((k : Int) == (s.size : Int)) = false from by simp; omega)
      go_wp2_with fail
      refine (done_is HQ.out D0.out).mono ?_
      rintro r w1 ⟨rfl, m, rfl⟩
      go_wp2_with fail
      refine (has_any 59 (by decide) (HQ.out.drewN m) hk).mono ?_
      rintro r w1 ⟨rfl, m', rfl⟩
      cases hsm : (byt s k == 59)
      · have C1 := Lib.hid (show closer s a = (if stops (s.extract k (upTo isRun s k)).toList then k else cloN s n (if isRun (byt s k) then upTo isRun s k else k + 1)) from by
          rw [← HC.out, cloN, if_pos ⟨hlt, by simpa using hsm⟩])
        clear hsm
        have HG0 := Lib.hid (grown_drewN (grown_drewN HG.out m) m')
        have HQ0 := Lib.hid ((HQ.out.drewN m).drewN m')
        generalize (wr.drewN m).drewN m' = W0 at *
        have d0 := HQ0.out.c0
        have d1 := HQ0.out.c1
        have hB0 := HQ0.out.lt
        have hsz : w.heap.size ≤ W0.heap.size := HG0.out.size
        clear HG e0 e1 hBr
        go_wp2_with fail
        refine (take_any 4 (by unfold okCls; simp) (fresh_pos W0 47 s k) hk hs).mono ?_
        rintro r w2 ⟨rfl, hg2, hp2⟩
        have G2 := Lib.hid (grown_and (grown_and HG0.out (World.grownBy_alloc W0 (.cells #[.string s, .int .i64 k] 47) (some B)) (fun j e => .inr e)) hg2 (fun j e => .inl (by cases e; exact hsz)))
        have P2 := Lib.hid ((HQ0.out.kept (World.grownBy_alloc W0 (.cells #[.string s, .int .i64 k] 47) none) (by simp)).kept hg2 (by simp; omega))
        have hE := run_empty (f := inCls 4) (inCls_out 4) hk
        have b0 := hp2.c0
        have b1 := hp2.c1
        have b2 := hp2.f1
        have g0 := P2.out.c0
        have g1 := P2.out.c1
        have g2 : w2.frozen? ⟨B, 0, none⟩ = false := cells_free P2.out
        have g3 := P2.out.f1
        have hne : ¬ W0.heap.size = B := by omega
        have hne' : ¬ B = W0.heap.size := by omega
        clear hg2 hp2 d0 d1
        rw [show isRun = inCls 4 from rfl] at C1
        have hu1 := upTo_ge (inCls 4) s k
        have hu2 := upTo_le (f := inCls 4) hk
        have hu3 : inCls 4 (byt s k) = true → k < upTo (inCls 4) s k := fun h => by rw [upTo_step hlt h]; exact upTo_ge _ s (k + 1)
        have hu4 : inCls 4 (byt s k) = false → upTo (inCls 4) s k = k := upTo_stop
        generalize upTo (inCls 4) s k = u at *
        generalize s.extract k u = x at *
        cases h1 : (x.toList == [101, 110, 100])
        · cases h2 : (x.toList == [101, 108, 115, 101])
          · rw [show stops x.toList = false from by simp only [stops, h1, h2]; rfl] at C1
            cases hd : inCls 4 (byt s k)
            · rw [hd] at hE C1
              have C2 := Lib.hid (show cloN s n (k + 1) = closer s a from C1.out.symm)
              obtain rfl := hu4 hd
              clear C1 hd hu3 hu4
              go_wp2_with fail
              go_roundw
              case rel => exact ⟨u + 1, n, by omega, by omega, C2.out, grown_two (grown_and G2.out (grown_setCell _ ⟨W0.heap.size, 1, none⟩ _) (fun j e => .inl (by cases e; exact hsz))), pos_two (P2.out.kept (grown_setCell _ ⟨W0.heap.size, 1, none⟩ _) (by simp; omega))⟩
              case measure =>
                have e := posOf_is (a := u + 1) (pos_two (P2.out.kept (grown_setCell w2 ⟨W0.heap.size, 1, none⟩ (.int .i64 ((u : Int) + 1))) (by simp; omega)))
                push_cast at e
                rw [posOf_is HQ.out, e]
                omega
            · rw [hd] at hE C1
              have C2 := Lib.hid (show cloN s n u = closer s a from C1.out.symm)
              have hu := hu3 hd
              clear C1 hd hu3
              go_wp2_with fail
              go_roundw
              case rel => exact ⟨u, n, hu2, by omega, C2.out, grown_two G2.out, pos_two P2.out⟩
              case measure =>
                rw [posOf_is HQ.out, posOf_is (a := u) (pos_two P2.out)]
                omega
          · have E := Lib.hid (show closer s a = k from by
              rw [C1.out, show stops x.toList = true from by simp only [stops, h1, h2]; rfl]
              rfl)
            clear C1 hu3
            go_wp2_with fail
            rw [Exit.noGoto_normal]
            go_end0
            exact ⟨rfl, FIN.out _ G2.out P2.out E.out⟩
        · have E := Lib.hid (show closer s a = k from by
            rw [C1.out, show stops x.toList = true from by simp only [stops, h1]; rfl]
            rfl)
          clear C1 hu3
          go_wp2_with fail
          rw [Exit.noGoto_normal]
          go_end0
          exact ⟨rfl, FIN.out _ G2.out P2.out E.out⟩
      · have E := Lib.hid (show closer s a = k from by
          rw [← HC.out, cloN, if_neg]
          simp at hsm
          simp [hsm])
        clear hsm
        go_wp2_with fail
        rw [Exit.noGoto_normal]
        go_end0
        exact ⟨rfl, FIN.out _ (grown_drewN HG.out _) (HQ.out.drewN _) E.out⟩
    · have D0 := Lib.hid (show ((k : Int) == (s.size : Int)) = true from by simp; omega)
      have E := Lib.hid (show closer s a = k from by
        rw [← HC.out, cloN, if_neg]
        omega)
      go_wp2_with fail
      refine (done_is HQ.out D0.out).mono ?_
      rintro r w1 ⟨rfl, m, rfl⟩
      go_wp2_with fail
      rw [Exit.noGoto_normal]
      go_end0
      exact ⟨rfl, FIN.out _ (grown_drewN HG.out _) (HQ.out.drewN _) E.out⟩

end Go.Proofs.YtnmifeiokhpcfaaDoor
