/-
  PACKAGE lex: the iterator over the comments of a text.
-/
import Derived.Test.YtnmifeiokhpcfaaDoorLex12
import Derived.Test.YtnmifeiokhpcfaaDoorSeqC

namespace Go.Proofs.YtnmifeiokhpcfaaDoor
open Go.RowKit Go.Shelf
set_option linter.unusedVariables false
attribute [local go_sem] Oper.semAt_some

def isEndTk (t : Tk) : Bool := t.kind == 1 && t.text.toList == [101, 110, 100]
/-- the comments in a gap, from a on; none: one has no end -/
def gapN (e : Bool) (t : ByteArray) : Nat → Nat → Option (List (Nat × Nat))
  | 0, _ => none
  | n + 1, a => if upTo isBlank t a = t.size then some [] else
    if e = true then (gapN e t n (backTo t t.size)).map (fun r => (upTo isBlank t a, backTo t t.size) :: r)
    else if toSemi t (upTo isBlank t a) < t.size then (gapN e t n (toSemi t (upTo isBlank t a) + 1)).map (fun r => (upTo isBlank t a, toSemi t (upTo isBlank t a) + 1) :: r) else none
/-- where the next token begins -/
def nextAt (s : ByteArray) : List Tk → Nat
  | [] => s.size
  | u :: _ => u.ofs
/-- the comments behind tokens -/
def comsL (s : ByteArray) : List Tk → Option (List (Nat × Nat))
  | [] => some []
  | t :: r => match gapN (isEndTk t) (s.extract 0 (nextAt s r)) (s.size + 1) t.en, comsL s r with
    | some x, some y => some (x ++ y)
    | _, _ => none
/-- the tokens lie one behind the other -/
def okL (s : ByteArray) : List Tk → Prop
  | [] => True
  | t :: r => t.en ≤ nextAt s r ∧ nextAt s r ≤ s.size ∧ okL s r
abbrev encP (p : Nat × Nat) : Array Value := #[.agg #[.int .i64 p.1, .int .i64 p.2]]

/-- what the iterator reads between two rounds: blocks of tokens, of a string, of a list of tokens -/
structure Kq (A B : World) : Prop where
  size : A.heap.size ≤ B.heap.size
  same : ∀ (k : Nat) (cur : Array Value) (T : TypeId) (fr : Nat × Nat), (T = 37 ∨ T = 9 ∨ T = 23) → A.heap[k]? = some (Obj.cells cur T fr) → B.heap[k]? = some (Obj.cells cur T fr)
theorem Kq.refl (A : World) : Kq A A := ⟨Nat.le_refl _, fun _ _ _ _ _ h => h⟩
theorem Kq.trans {A B C : World} (h : Kq A B) (k : Kq B C) : Kq A C := ⟨Nat.le_trans h.size k.size, fun i cur T fr hT ho => k.same i cur T fr hT (h.same i cur T fr hT ho)⟩
theorem Kq.alloc {A B : World} (h : Kq A B) (o : Obj) : Kq A (B.alloc o) := h.trans ⟨by simp, fun i cur T fr _ ho => (Below.heap_alloc _ _ _ (cells_lt ho)).trans ho⟩
theorem Kq.drew {A B : World} (h : Kq A B) : Kq A B.drew := ⟨h.size, h.same⟩
theorem Kq.drewN {A B : World} (h : Kq A B) (n : Nat) : Kq A (B.drewN n) := ⟨h.size, h.same⟩
theorem Kq.grown0 {A B C : World} (h : Kq A B) (hg : B.grownBy C none) : Kq A C := h.trans ⟨hg.size, fun i cur T fr _ ho => (hg.block i (cells_lt ho) (by simp)).trans ho⟩
theorem Kq.grown {A B C : World} (h : Kq A B) {b : Nat} (hg : B.grownBy C (some b)) {s : ByteArray} {a : Int} {rest : List Value} (hp : Pos B b 47 s a rest) : Kq A C := h.trans ⟨hg.size, fun i cur T fr hT ho => by
  rw [hg.block i (cells_lt ho) (fun e => by
    cases e
    have hp' : B.heap[b]? = some (.cells (Value.string s :: .int .i64 a :: rest).toArray 47 (0, 0)) := hp
    rw [hp'] at ho
    cases ho
    rcases hT with h | h | h <;> cases h)]
  exact ho⟩
theorem Kq.of_below {A B : World} (h : Below A.heap.size A B) : Kq A B := ⟨h.size, fun i cur T fr _ ho => (h.block i (cells_lt ho)).trans ho⟩
theorem Kq.cell {A B : World} (h : Kq A B) {b j : Nat} {cur : Array Value} {T : TypeId} {fr : Nat × Nat} (hT : T = 37 ∨ T = 9 ∨ T = 23) (ho : A.heap[b]? = some (.cells cur T fr)) : B.cell? ⟨b, j, none⟩ = cur[j]? := by
  simp [World.cell?, h.same b cur T fr hT ho]
/-- what a round's body keeps: these, and whatever places there are -/
def KeepT (W W' : World) : Prop := Kq W W' ∧ ∀ (k : Nat) (cur : Array Value) (fr : Nat × Nat), W.heap[k]? = some (Obj.cells cur 47 fr) → W'.heap[k]? = some (Obj.cells cur 47 fr)
theorem KeepT.t {A B C : World} (h : KeepT A B) (k : KeepT B C) : KeepT A C := ⟨h.1.trans k.1, fun i cur fr ho => k.2 i cur fr (h.2 i cur fr ho)⟩
theorem KeepT.pos {A B : World} (h : KeepT A B) {b : Nat} {s : ByteArray} {a : Int} {rest : List Value} (hp : Pos A b 47 s a rest) : Pos B b 47 s a rest := h.2 _ _ _ hp
theorem KeepT.tok {A B : World} (h : KeepT A B) {b : Nat} {cur : Array Value} (hp : A.heap[b]? = some (.cells cur 37 (0, 0))) : B.heap[b]? = some (.cells cur 37 (0, 0)) := h.1.same _ _ _ _ (.inl rfl) hp

/-- the tokens in memory -/
def TokAt (w : World) (v : Value) (l : List Tk) : Prop :=
  (v = .slice none 0 0 ∧ l = []) ∨ ∃ g c cur, v = .slice (some ⟨g, 0, none⟩) l.length c ∧ w.heap[g]? = some (.cells cur 37 (0, 0)) ∧ ∀ (k : Nat) (t : Tk), l[k]? = some t → ∀ j, j < 7 → cur[k * 7 + j]? = t.cells[j]?
theorem TokAt.kept {w w' : World} {v : Value} {l : List Tk} (h : TokAt w v l) (hb : Kq w w') : TokAt w' v l := by
  rcases h with h | ⟨g, c, cur, h1, h2, h3⟩
  · exact .inl h
  · exact .inr ⟨g, c, cur, h1, hb.same g cur _ _ (.inl rfl) h2, h3⟩
theorem TokAt.of {w : World} {b : Nat} {v : Value} {l : List Tk} (h : w.ownsRow b 37 7 v l.length (cellsOf l)) : TokAt w v l := by
  rcases h.2 with ⟨h1, h2⟩ | ⟨g, cap, cur, rfl, hb, hg, hc, hm, hz, ht⟩
  · exact .inl ⟨h1, List.eq_nil_of_length_eq_zero h2⟩
  · refine .inr ⟨g, cap, cur, rfl, hg, fun k t hk j hj => ?_⟩
    have hkl : k < l.length := (List.getElem?_eq_some_iff.1 hk).1
    rw [← cellsOf_get l k j hj t hk, ← ht, List.getElem?_take, if_pos (by omega)]
    simp

theorem comsL_cons {s : ByteArray} {t : Tk} {r : List Tk} {z : List (Nat × Nat)} (h : comsL s (t :: r) = some z) : ∃ x y, gapN (isEndTk t) (s.extract 0 (nextAt s r)) (s.size + 1) t.en = some x ∧ comsL s r = some y ∧ z = x ++ y := by
  unfold comsL at h
  split at h
  · rename_i x y h1 h2
    cases h
    exact ⟨x, y, h1, h2, rfl⟩
  · cases h
theorem gapN_step {e : Bool} {t : ByteArray} {m a : Nat} {r : List (Nat × Nat)} (h : gapN e t m a = some r) : ∃ n, m = n + 1 ∧ ((upTo isBlank t a = t.size ∧ r = []) ∨ (upTo isBlank t a ≠ t.size ∧
    ((e = true ∧ ∃ r', r = (upTo isBlank t a, backTo t t.size) :: r' ∧ gapN e t n (backTo t t.size) = some r') ∨
     (e = false ∧ toSemi t (upTo isBlank t a) < t.size ∧ ∃ r', r = (upTo isBlank t a, toSemi t (upTo isBlank t a) + 1) :: r' ∧ gapN e t n (toSemi t (upTo isBlank t a) + 1) = some r')))) := by
  cases m with
  | zero => cases h
  | succ n =>
    refine ⟨n, rfl, ?_⟩
    unfold gapN at h
    split at h
    · rename_i h1; cases h; exact .inl ⟨h1, rfl⟩
    · rename_i h1
      refine .inr ⟨h1, ?_⟩
      split at h
      · rename_i h2
        obtain ⟨r', h3, h4⟩ := Option.map_eq_some_iff.1 h
        exact .inl ⟨h2, r', h4.symm, h3⟩
      · rename_i h2
        split at h
        · rename_i h5
          obtain ⟨r', h3, h4⟩ := Option.map_eq_some_iff.1 h
          exact .inr ⟨by simpa using h2, h5, r', h4.symm, h3⟩
        · cases h

set_option maxRecDepth 100000 in
set_option maxHeartbeats 4000000 in
theorem comments1_C (n : Nat) (hn : 1 ≤ n) (w : World) (Bt Bs : Nat) (s : ByteArray) (v : Value) (l : List Tk) (xs : List (Nat × Nat)) (hs : s.size < 4611686018427387904) (hl : l.length ≤ 131072)
    (hBt : w.heap[Bt]? = some (.cells #[v] 23 (0, 0))) (hBs : w.heap[Bs]? = some (.cells #[.string s] 9 (0, 0))) (htok : TokAt w v l) (hok : okL s l) (hx : comsL s l = some xs) :
    SeqC 47 Fence.wide n Tryd.prog 28 #[.pointer (some ⟨Bt, 0, none⟩), .pointer (some ⟨Bs, 0, none⟩)] encP KeepT xs w := by
  intro lr J W hW hJ hY h0
  have kW := Kq.of_below hW
  have BT := Lib.hid (kW.same Bt _ _ _ (.inr (.inr rfl)) hBt)
  have BS := Lib.hid (kW.same Bs _ _ _ (.inr (.inl rfl)) hBs)
  have bt : W.cell? ⟨Bt, 0, none⟩ = some v := by simp [World.cell?, BT.out]
  have ltBt := cells_lt BT.out
  have ltBs := cells_lt BS.out
  have TK := Lib.hid (htok.kept kW)
  have hWz := hW.size
  have HJ := Lib.hid hJ
  have HY := Lib.hid hY
  have H0 := Lib.hid h0
  have HX := Lib.hid hx
  have HOK := Lib.hid hok
  clear hBt hBs htok hJ hY h0 hx hok hW kW
  refine callsIn_of_wp Tryd.func28 rfl trivial ?_ rfl
  simp only [Tryd.ntmps28, List.size_toArray, List.length_cons, List.length_nil, Nat.reduceAdd, Nat.reduceSub, Array.replicate_succ, Array.replicate_zero, List.push_toArray, List.append_toArray, List.nil_append, List.cons_append]
  rcases TK.out with ⟨rfl, rfl⟩ | ⟨g, c, cur, rfl, hgb, hcell⟩
  · have hxs : xs = [] := by
      have := HX.out
      simpa [comsL] using this.symm
    have H1 := Lib.hid (show J xs W from by rw [hxs]; exact H0.out)
    clear hxs
    gi_wp2
    refine wpIn_loop_rounds 1 ?_
    rw [roundsIn_succ]
    gi_wp2
    go_end0
    exact ⟨⟨_, rfl⟩, H1.out⟩
  · gi_wp2
    gi_loopw [11] (fun i wr => ∃ (k : Nat) (pre rest : List (Nat × Nat)), k ≤ l.length ∧ i = .int .i64 k ∧ xs = pre ++ rest ∧ comsL s (l.drop k) = some rest ∧ okL s (l.drop k) ∧ Kq W wr ∧ W.heap.size ≤ wr.heap.size ∧ J pre wr) (fun i _ => l.length - (intOf i).toNat)
    case atStart => exact ⟨0, [], xs, Nat.zero_le _, rfl, rfl, HX.out, HOK.out, Kq.refl _, Nat.le_refl _, H0.out⟩
    case round =>
      obtain ⟨k, pre, rest, hk, rfl, hxp, hcm, hok, hbw, hzw, hj⟩ := hrel
      have HXP := Lib.hid hxp
      have HB := Lib.hid hbw
      have HJJ := Lib.hid hj
      clear hj
      by_cases hlt : k < l.length
      · obtain ⟨tk, htk⟩ : ∃ tk, l[k]? = some tk := ⟨l[k], List.getElem?_eq_getElem hlt⟩
        have hdr : l.drop k = tk :: l.drop (k + 1) := by
          rw [List.drop_eq_getElem_cons hlt]
          rw [List.getElem?_eq_getElem hlt] at htk
          cases htk
          rfl
        rw [hdr] at hcm hok
        have hcl : ∀ j, j < 7 → wr.cell? ⟨g, k * 7 + j, none⟩ = tk.cells[j]? := fun j hj => (hbw.cell (.inl rfl) hgb).trans (hcell k tk htk j hj)
        have j0 := hcl 0 (by decide)
        have j1 := hcl 1 (by decide)
        have j2 := hcl 2 (by decide)
        have j3 := hcl 3 (by decide)
        have j4 := hcl 4 (by decide)
        have j5 := hcl 5 (by decide)
        have j6 := hcl 6 (by decide)
        simp only [Tk.cells, List.getElem?_cons_zero, List.getElem?_cons_succ] at j0 j1 j2 j3 j4 j5 j6
        simp only [Nat.add_zero] at j0
        have e1 : wr.cell? ⟨Bt, 0, none⟩ = some (.slice (some ⟨g, 0, none⟩) l.length c) := hbw.cell (.inr (.inr rfl)) BT.out
        have e2 : wr.cell? ⟨Bs, 0, none⟩ = some (.string s) := hbw.cell (.inr (.inl rfl)) BS.out
        have hz1 : (0 : Int) ≤ (k : Int) := by omega
        have hz2 : (k : Int) < (l.length : Int) := by omega
        have hz3 : (l.length : Int) ≤ 131072 := by omega
        have HCM := Lib.hid hcm
        have HOK2 := Lib.hid hok
        have hg1 : g < wr.heap.size := Nat.lt_of_lt_of_le (cells_lt hgb) hzw
        have hBt1 : Bt < wr.heap.size := by omega
        have hBs1 : Bs < wr.heap.size := by omega
        clear hcm hok hbw hcl hxp
        by_cases hk1 : k + 1 < l.length
        · obtain ⟨u, hu⟩ : ∃ u, l[k + 1]? = some u := ⟨l[k + 1], List.getElem?_eq_getElem hk1⟩
          have u5 : wr.cell? ⟨g, (k + 1) * 7 + 5, none⟩ = _ := (HB.out.cell (.inl rfl) hgb).trans (hcell (k + 1) u hu 5 (by decide))
          simp only [Tk.cells, List.getElem?_cons_zero, List.getElem?_cons_succ] at u5
          have hz4 : ((k : Int) + 1 < (l.length : Int)) := by omega
          have hdr2 : l.drop (k + 1) = u :: l.drop (k + 2) := by
            rw [List.drop_eq_getElem_cons hk1]
            rw [List.getElem?_eq_getElem hk1] at hu
            cases hu
            rfl
          have hnx : nextAt s (l.drop (k + 1)) = u.ofs := by rw [hdr2]; rfl
          have ho1 := HOK2.out.1
          have ho2 := HOK2.out.2.1
          rw [hnx] at ho1 ho2
          have hz5 : (0 : Int) ≤ (u.ofs : Int) := by omega
          have hz6 : (u.ofs : Int) ≤ (s.size : Int) := by omega
          gi_wp2
          gi_region
          have hcm2 := HCM.out
          obtain ⟨gx, y, hgx, hy, hrest⟩ := comsL_cons hcm2
          rw [hnx] at hgx
          skip
          have tsz : (s.extract 0 (u.ofs)).size = u.ofs := by first | rfl | (rw [ByteArray.size_extract]; omega)
          have q1 : (((wr.alloc (.cells #[.int .i64 tk.kind, .string tk.text, .int .i64 tk.n, .int .i64 tk.man, .int .i64 tk.ex, .int .i64 tk.ofs, .int .i64 tk.en] 37)).alloc (.cells #[.string (s.extract 0 (u.ofs)), .int .i64 tk.en] 47)).drew).heap[wr.heap.size]? = some (.cells #[.int .i64 tk.kind, .string tk.text, .int .i64 tk.n, .int .i64 tk.man, .int .i64 tk.ex, .int .i64 tk.ofs, .int .i64 tk.en] 37) := (Below.heap_alloc (wr.alloc (.cells #[.int .i64 tk.kind, .string tk.text, .int .i64 tk.n, .int .i64 tk.man, .int .i64 tk.ex, .int .i64 tk.ofs, .int .i64 tk.en] 37)) _ _ (by simp)).trans (heap_alloc_new wr _)
          have q2 : Pos (((wr.alloc (.cells #[.int .i64 tk.kind, .string tk.text, .int .i64 tk.n, .int .i64 tk.man, .int .i64 tk.ex, .int .i64 tk.ofs, .int .i64 tk.en] 37)).alloc (.cells #[.string (s.extract 0 (u.ofs)), .int .i64 tk.en] 47)).drew) (wr.heap.size + 1) 47 (s.extract 0 (u.ofs)) tk.en [] := new2 _ _ _
          have jj : J pre (((wr.alloc (.cells #[.int .i64 tk.kind, .string tk.text, .int .i64 tk.n, .int .i64 tk.man, .int .i64 tk.ex, .int .i64 tk.ofs, .int .i64 tk.en] 37)).alloc (.cells #[.string (s.extract 0 (u.ofs)), .int .i64 tk.en] 47)).drew) := HJ.out pre _ _ HJJ.out ⟨none, grown_drew ((World.grownBy_alloc wr _ none).trans (World.grownBy_alloc _ _ none)), fun r e => by cases e⟩
          have bb : Kq W (((wr.alloc (.cells #[.int .i64 tk.kind, .string tk.text, .int .i64 tk.n, .int .i64 tk.man, .int .i64 tk.ex, .int .i64 tk.ofs, .int .i64 tk.en] 37)).alloc (.cells #[.string (s.extract 0 (u.ofs)), .int .i64 tk.en] 47)).drew) := ((HB.out.alloc _).alloc _).drew
          have zz : wr.heap.size + 1 < (((wr.alloc (.cells #[.int .i64 tk.kind, .string tk.text, .int .i64 tk.n, .int .i64 tk.man, .int .i64 tk.ex, .int .i64 tk.ofs, .int .i64 tk.en] 37)).alloc (.cells #[.string (s.extract 0 (u.ofs)), .int .i64 tk.en] 47)).drew).heap.size := by simp
          gi_wp2
          generalize (((wr.alloc (.cells #[.int .i64 tk.kind, .string tk.text, .int .i64 tk.n, .int .i64 tk.man, .int .i64 tk.ex, .int .i64 tk.ofs, .int .i64 tk.en] 37)).alloc (.cells #[.string (s.extract 0 (u.ofs)), .int .i64 tk.en] 47)).drew) = W6 at q1 q2 jj bb zz ⊢
          obtain ⟨N1, hN1⟩ : ∃ N1, wr.heap.size = N1 := ⟨_, rfl⟩
          have hzN : W.heap.size ≤ N1 := by omega
          rw [hN1] at q1 q2 zz ⊢
          obtain ⟨t, ht⟩ : ∃ t, t = s.extract 0 (u.ofs) := ⟨_, rfl⟩
          rw [← ht] at hgx tsz q2 ⊢
          have hen : tk.en ≤ t.size := by rw [tsz]; exact ho1
          have htz : t.size < 4611686018427387904 := by rw [tsz]; omega
          clear tsz
          refine ⟨trivial, callsIn_wide.2 ((take_any 1 (by unfold okCls; simp) q2 hen htz).mono ?_)⟩
          rintro e W7 ⟨rfl, hg7, hp7⟩
          have Q1 := Lib.hid (((hg7.block N1 (by omega) (by simp)).trans q1 : W7.heap[N1]? = some (.cells #[.int .i64 tk.kind, .string tk.text, .int .i64 tk.n, .int .i64 tk.man, .int .i64 tk.ex, .int .i64 tk.ofs, .int .i64 tk.en] 37)))
          have Q2 := Lib.hid (show Pos W7 (N1 + 1) 47 t (upTo isBlank t tk.en) [] from hp7)
          have J7 := Lib.hid (HJ.out pre _ _ jj ⟨some (N1 + 1), hg7, fun r e => by cases e; exact ⟨by omega, _, _, q2⟩⟩)
          have B7 := Lib.hid (bb.grown hg7 q2)
          have Z7 : N1 + 1 < W7.heap.size := Nat.lt_of_lt_of_le zz hg7.size
          have HGX := Lib.hid hgx
          have HYY := Lib.hid hy
          have HXX := Lib.hid (show xs = pre ++ (gx ++ y) from by rw [HXP.out, hrest])
          clear hg7 hp7 q1 q2 jj bb zz hgx hy hrest hcm2 ht
          gi_wp2
          gi_loopw [] (fun wr => ∃ (a m : Nat) (p r : List (Nat × Nat)), a ≤ t.size ∧ gapN (isEndTk tk) t m a = some r ∧ xs = p ++ (r ++ y) ∧ Kq W wr ∧ N1 + 1 < wr.heap.size ∧ J p wr ∧ Pos wr (N1 + 1) 47 t (upTo isBlank t a) [] ∧ wr.heap[N1]? = some (.cells #[.int .i64 tk.kind, .string tk.text, .int .i64 tk.n, .int .i64 tk.man, .int .i64 tk.ex, .int .i64 tk.ofs, .int .i64 tk.en] 37)) (fun wr => t.size - posOf (N1 + 1) wr)
          case atStart => exact ⟨tk.en, s.size + 1, pre, gx, hen, HGX.out, HXX.out, B7.out, Z7, J7.out, Q2.out, Q1.out⟩
          case round =>
            obtain ⟨a, m, p, r, ha, hga, hxp, hbi, hzi, hji, hpi, hoi⟩ := hrel
            obtain ⟨m, rfl, hcase⟩ := gapN_step hga
            have PM := Lib.hid (posOf_is hpi)
            have hi1 := upTo_ge isBlank t a
            have hi2 := upTo_le (f := isBlank) ha
            have hbl : isBlank (byt t (upTo isBlank t a)) = false := upTo_false (by decide) t a
            obtain ⟨i, hie⟩ : ∃ i, i = upTo isBlank t a := ⟨_, rfl⟩
            rw [← hie] at hcase hi1 hi2 hpi PM hbl
            have XP := Lib.hid hxp
            have BI := Lib.hid hbi
            have JI := Lib.hid hji
            have PI := Lib.hid hpi
            have OI := Lib.hid hoi
            have HBL := Lib.hid hbl
            have p1 := hpi.c1
            have v0 : wr.cell? ⟨N1, 0, none⟩ = some (.int .i64 tk.kind) := by simp [World.cell?, hoi]
            have v1 : wr.cell? ⟨N1, 1, none⟩ = some (.string tk.text) := by simp [World.cell?, hoi]
            have v2 : wr.cell? ⟨N1, 2, none⟩ = some (.int .i64 tk.n) := by simp [World.cell?, hoi]
            have v3 : wr.cell? ⟨N1, 3, none⟩ = some (.int .i64 tk.man) := by simp [World.cell?, hoi]
            have v4 : wr.cell? ⟨N1, 4, none⟩ = some (.int .i64 tk.ex) := by simp [World.cell?, hoi]
            have v5 : wr.cell? ⟨N1, 5, none⟩ = some (.int .i64 tk.ofs) := by simp [World.cell?, hoi]
            have v6 : wr.cell? ⟨N1, 6, none⟩ = some (.int .i64 tk.en) := by simp [World.cell?, hoi]
            clear hga hxp hbi hji hpi hoi hie hbl
            gi_wp2
            rcases hcase with ⟨hi, rfl⟩ | ⟨hi, hcase⟩
            · have D := Lib.hid (show ((i : Int) == (t.size : Int)) = true from by simp [hi])
              refine ⟨trivial, callsIn_wide.2 ((done_is PI.out D.out).mono ?_)⟩
              rintro e W8 ⟨rfl, q, rfl⟩
              have JE := Lib.hid (HJ.out p _ _ JI.out (⟨none, grown_drewN (grown_refl _ _) q, fun r e => by cases e⟩ : Turns _ _ _ (wr.drewN q)))
              have BE := Lib.hid (BI.out.drewN q)
              clear hi
              gi_wp2
              go_roundw
              case rel => exact ⟨k + 1, p, y, by omega, by go_num, by rw [XP.out]; rfl, HYY.out, HOK2.out.2.2, BE.out, by simp; omega, JE.out⟩
              case measure => simp [intOf]; omega
            · have D := Lib.hid (show ((i : Int) == (t.size : Int)) = false from by simp; omega)
              have hilt : i < t.size := by omega
              refine ⟨trivial, callsIn_wide.2 ((done_is PI.out D.out).mono ?_)⟩
              rintro e W8 ⟨rfl, q, rfl⟩
              clear hi
              gi_wp2
              refine ⟨trivial, callsIn_wide.2 ((is_any tk 1 ⟨#[101, 110, 100]⟩ _ (xl := [101, 110, 100]) (by rw [ByteArray.toList_eq])).mono ?_)⟩
              rintro e W9 ⟨rfl, hb9⟩
              have G9 : wr.grownBy W9 none := ⟨hb9.os, hb9.tape, hb9.output, hb9.size, fun k hk _ => hb9.block k hk⟩
              have Z9 : N1 + 1 < W9.heap.size := Nat.lt_of_lt_of_le hzi G9.size
              have P9 := Lib.hid (PI.out.kept G9 (by simp))
              have O9 := Lib.hid ((G9.block N1 (by omega) (by simp)).trans OI.out : W9.heap[N1]? = some (.cells #[.int .i64 tk.kind, .string tk.text, .int .i64 tk.n, .int .i64 tk.man, .int .i64 tk.ex, .int .i64 tk.ofs, .int .i64 tk.en] 37))
              have J9 := Lib.hid (HJ.out p _ _ JI.out ⟨none, G9, fun r e => by cases e⟩)
              have B9 := Lib.hid (BI.out.grown0 G9)
              clear hb9 G9 v0 v1 v2 v3 v4 v5 v6 p1
              rcases hcase with ⟨he, r', rfl, hgr⟩ | ⟨he, hts, r', rfl, hgr⟩
              · have E := Lib.hid (show (tk.kind == 1 && tk.text.toList == [101, 110, 100]) = true from he)
                rw [E.out]
                obtain ⟨f, hf⟩ : ∃ f, f = backTo t t.size := ⟨_, rfl⟩
                have XQ := Lib.hid (show xs = p ++ (i, f) :: (r' ++ y) from by rw [XP.out, hf]; rfl)
                rw [← hf] at hgr
                have GR := Lib.hid hgr
                have hfb : i < f ∧ f ≤ t.size := by rw [hf]; have := backTo_gt HBL.out t.size hilt; omega
                have HF := Lib.hid hf
                clear hgr he hf
                gi_wp2
                refine ⟨trivial, callsIn_wide.2 ((passAll_any P9.out hilt HBL.out htz).mono ?_)⟩
                rintro e WX ⟨rfl, hgX, hpX⟩
                skip
                rw [← HF.out] at hpX
                have PX := Lib.hid hpX
                have OX := Lib.hid ((hgX.block N1 (by have := Z9; omega) (by simp)).trans O9.out : WX.heap[N1]? = some (.cells #[.int .i64 tk.kind, .string tk.text, .int .i64 tk.n, .int .i64 tk.man, .int .i64 tk.ex, .int .i64 tk.ofs, .int .i64 tk.en] 37))
                have JX := Lib.hid (HJ.out p _ _ J9.out ⟨some (N1 + 1), hgX, fun r e => by cases e; exact ⟨by omega, _, _, P9.out⟩⟩)
                have BX := Lib.hid (B9.out.grown hgX P9.out)
                have ZX : N1 + 1 < WX.heap.size := Nat.lt_of_lt_of_le Z9 hgX.size
                have pX := hpX.c1
                obtain ⟨fn, tmps, assign, body, hy, hR⟩ := HY.out p (i, f) (r' ++ y) WX XQ.out JX.out
                dsimp only [encP] at hy
                clear hgX hpX
                gi_wp2
                refine hR.mono ?_
                rintro e WY ⟨rfl, hjY, hkY⟩
                have PY := Lib.hid (hkY.pos PX.out)
                have OY := Lib.hid (hkY.tok OX.out)
                have JY := Lib.hid hjY
                have BY := Lib.hid (BX.out.trans hkY.1)
                have ZY : N1 + 1 < WY.heap.size := Nat.lt_of_lt_of_le ZX hkY.1.size
                clear hjY hkY hy
                gi_wp2
                refine ⟨trivial, callsIn_wide.2 ((take_any 1 (by unfold okCls; simp) PY.out hfb.2 htz).mono ?_)⟩
                rintro e WZ ⟨rfl, hgZ, hpZ⟩
                have PZ := Lib.hid (show Pos WZ (N1 + 1) 47 t (upTo isBlank t f) [] from hpZ)
                have OZ := Lib.hid ((hgZ.block N1 (by omega) (by simp)).trans OY.out : WZ.heap[N1]? = some (.cells #[.int .i64 tk.kind, .string tk.text, .int .i64 tk.n, .int .i64 tk.man, .int .i64 tk.ex, .int .i64 tk.ofs, .int .i64 tk.en] 37))
                have JZ := Lib.hid (HJ.out _ _ _ JY.out ⟨some (N1 + 1), hgZ, fun r e => by cases e; exact ⟨by omega, _, _, PY.out⟩⟩)
                have BZ := Lib.hid (BY.out.grown hgZ PY.out)
                have ZZ : N1 + 1 < WZ.heap.size := Nat.lt_of_lt_of_le ZY hgZ.size
                clear hgZ hpZ
                gi_wp2
                go_roundw
                case rel => exact ⟨f, m, p ++ [(i, f)], r', hfb.2, GR.out, by rw [XQ.out, List.append_assoc]; rfl, BZ.out, ZZ, JZ.out, PZ.out, OZ.out⟩
                case measure =>
                  have g1 := upTo_ge isBlank t f
                  have g2 := upTo_le (f := isBlank) hfb.2
                  rw [PM.out, posOf_is PZ.out]
                  omega
              · have E := Lib.hid (show (tk.kind == 1 && tk.text.toList == [101, 110, 100]) = false from he)
                rw [E.out]
                obtain ⟨f, hf⟩ : ∃ f, f = toSemi t i + 1 := ⟨_, rfl⟩
                have XQ := Lib.hid (show xs = p ++ (i, f) :: (r' ++ y) from by rw [XP.out, hf]; rfl)
                rw [← hf] at hgr
                have GR := Lib.hid hgr
                have hfb : i < f ∧ f ≤ t.size := by rw [hf]; have := toSemi_ge t i; omega
                have HF := Lib.hid hf
                clear hgr he hf
                gi_wp2
                refine ⟨trivial, callsIn_wide.2 ((passComment_any P9.out (Nat.le_of_lt hilt) htz).mono ?_)⟩
                rintro e WX ⟨rfl, hgX, hpX⟩
                rw [show semiAt t i = toSemi t i + 1 from if_pos hts] at hpX
                rw [← HF.out] at hpX
                have PX := Lib.hid hpX
                have OX := Lib.hid ((hgX.block N1 (by have := Z9; omega) (by simp)).trans O9.out : WX.heap[N1]? = some (.cells #[.int .i64 tk.kind, .string tk.text, .int .i64 tk.n, .int .i64 tk.man, .int .i64 tk.ex, .int .i64 tk.ofs, .int .i64 tk.en] 37))
                have JX := Lib.hid (HJ.out p _ _ J9.out ⟨some (N1 + 1), hgX, fun r e => by cases e; exact ⟨by omega, _, _, P9.out⟩⟩)
                have BX := Lib.hid (B9.out.grown hgX P9.out)
                have ZX : N1 + 1 < WX.heap.size := Nat.lt_of_lt_of_le Z9 hgX.size
                have pX := hpX.c1
                obtain ⟨fn, tmps, assign, body, hy, hR⟩ := HY.out p (i, f) (r' ++ y) WX XQ.out JX.out
                dsimp only [encP] at hy
                clear hgX hpX
                gi_wp2
                refine hR.mono ?_
                rintro e WY ⟨rfl, hjY, hkY⟩
                have PY := Lib.hid (hkY.pos PX.out)
                have OY := Lib.hid (hkY.tok OX.out)
                have JY := Lib.hid hjY
                have BY := Lib.hid (BX.out.trans hkY.1)
                have ZY : N1 + 1 < WY.heap.size := Nat.lt_of_lt_of_le ZX hkY.1.size
                clear hjY hkY hy
                gi_wp2
                refine ⟨trivial, callsIn_wide.2 ((take_any 1 (by unfold okCls; simp) PY.out hfb.2 htz).mono ?_)⟩
                rintro e WZ ⟨rfl, hgZ, hpZ⟩
                have PZ := Lib.hid (show Pos WZ (N1 + 1) 47 t (upTo isBlank t f) [] from hpZ)
                have OZ := Lib.hid ((hgZ.block N1 (by omega) (by simp)).trans OY.out : WZ.heap[N1]? = some (.cells #[.int .i64 tk.kind, .string tk.text, .int .i64 tk.n, .int .i64 tk.man, .int .i64 tk.ex, .int .i64 tk.ofs, .int .i64 tk.en] 37))
                have JZ := Lib.hid (HJ.out _ _ _ JY.out ⟨some (N1 + 1), hgZ, fun r e => by cases e; exact ⟨by omega, _, _, PY.out⟩⟩)
                have BZ := Lib.hid (BY.out.grown hgZ PY.out)
                have ZZ : N1 + 1 < WZ.heap.size := Nat.lt_of_lt_of_le ZY hgZ.size
                clear hgZ hpZ
                gi_wp2
                go_roundw
                case rel => exact ⟨f, m, p ++ [(i, f)], r', hfb.2, GR.out, by rw [XQ.out, List.append_assoc]; rfl, BZ.out, ZZ, JZ.out, PZ.out, OZ.out⟩
                case measure =>
                  have g1 := upTo_ge isBlank t f
                  have g2 := upTo_le (f := isBlank) hfb.2
                  rw [PM.out, posOf_is PZ.out]
                  omega
        · have hz4 : ¬ ((k : Int) + 1 < (l.length : Int)) := by omega
          have hnx : nextAt s (l.drop (k + 1)) = s.size := by rw [List.drop_eq_nil_of_le (by omega)]; rfl
          have ho1 := HOK2.out.1
          have ho2 := HOK2.out.2.1
          rw [hnx] at ho1 ho2
          have hz5 : (0 : Int) ≤ (s.size : Int) := by omega
          have hz6 : (s.size : Int) ≤ (s.size : Int) := by omega
          gi_wp2
          gi_region
          have hcm2 := HCM.out
          obtain ⟨gx, y, hgx, hy, hrest⟩ := comsL_cons hcm2
          rw [hnx] at hgx
          rw [show s.extract 0 s.size = s from by simp] at hgx
          have q1 : (((wr.alloc (.cells #[.int .i64 tk.kind, .string tk.text, .int .i64 tk.n, .int .i64 tk.man, .int .i64 tk.ex, .int .i64 tk.ofs, .int .i64 tk.en] 37)).alloc (.cells #[.string (s), .int .i64 tk.en] 47)).drew).heap[wr.heap.size]? = some (.cells #[.int .i64 tk.kind, .string tk.text, .int .i64 tk.n, .int .i64 tk.man, .int .i64 tk.ex, .int .i64 tk.ofs, .int .i64 tk.en] 37) := (Below.heap_alloc (wr.alloc (.cells #[.int .i64 tk.kind, .string tk.text, .int .i64 tk.n, .int .i64 tk.man, .int .i64 tk.ex, .int .i64 tk.ofs, .int .i64 tk.en] 37)) _ _ (by simp)).trans (heap_alloc_new wr _)
          have q2 : Pos (((wr.alloc (.cells #[.int .i64 tk.kind, .string tk.text, .int .i64 tk.n, .int .i64 tk.man, .int .i64 tk.ex, .int .i64 tk.ofs, .int .i64 tk.en] 37)).alloc (.cells #[.string (s), .int .i64 tk.en] 47)).drew) (wr.heap.size + 1) 47 (s) tk.en [] := new2 _ _ _
          have jj : J pre (((wr.alloc (.cells #[.int .i64 tk.kind, .string tk.text, .int .i64 tk.n, .int .i64 tk.man, .int .i64 tk.ex, .int .i64 tk.ofs, .int .i64 tk.en] 37)).alloc (.cells #[.string (s), .int .i64 tk.en] 47)).drew) := HJ.out pre _ _ HJJ.out ⟨none, grown_drew ((World.grownBy_alloc wr _ none).trans (World.grownBy_alloc _ _ none)), fun r e => by cases e⟩
          have bb : Kq W (((wr.alloc (.cells #[.int .i64 tk.kind, .string tk.text, .int .i64 tk.n, .int .i64 tk.man, .int .i64 tk.ex, .int .i64 tk.ofs, .int .i64 tk.en] 37)).alloc (.cells #[.string (s), .int .i64 tk.en] 47)).drew) := ((HB.out.alloc _).alloc _).drew
          have zz : wr.heap.size + 1 < (((wr.alloc (.cells #[.int .i64 tk.kind, .string tk.text, .int .i64 tk.n, .int .i64 tk.man, .int .i64 tk.ex, .int .i64 tk.ofs, .int .i64 tk.en] 37)).alloc (.cells #[.string (s), .int .i64 tk.en] 47)).drew).heap.size := by simp
          gi_wp2
          generalize (((wr.alloc (.cells #[.int .i64 tk.kind, .string tk.text, .int .i64 tk.n, .int .i64 tk.man, .int .i64 tk.ex, .int .i64 tk.ofs, .int .i64 tk.en] 37)).alloc (.cells #[.string (s), .int .i64 tk.en] 47)).drew) = W6 at q1 q2 jj bb zz ⊢
          obtain ⟨N1, hN1⟩ : ∃ N1, wr.heap.size = N1 := ⟨_, rfl⟩
          have hzN : W.heap.size ≤ N1 := by omega
          rw [hN1] at q1 q2 zz ⊢
          have hen : tk.en ≤ s.size := ho1
          have htz : s.size < 4611686018427387904 := hs
          refine ⟨trivial, callsIn_wide.2 ((take_any 1 (by unfold okCls; simp) q2 hen htz).mono ?_)⟩
          rintro e W7 ⟨rfl, hg7, hp7⟩
          have Q1 := Lib.hid (((hg7.block N1 (by omega) (by simp)).trans q1 : W7.heap[N1]? = some (.cells #[.int .i64 tk.kind, .string tk.text, .int .i64 tk.n, .int .i64 tk.man, .int .i64 tk.ex, .int .i64 tk.ofs, .int .i64 tk.en] 37)))
          have Q2 := Lib.hid (show Pos W7 (N1 + 1) 47 s (upTo isBlank s tk.en) [] from hp7)
          have J7 := Lib.hid (HJ.out pre _ _ jj ⟨some (N1 + 1), hg7, fun r e => by cases e; exact ⟨by omega, _, _, q2⟩⟩)
          have B7 := Lib.hid (bb.grown hg7 q2)
          have Z7 : N1 + 1 < W7.heap.size := Nat.lt_of_lt_of_le zz hg7.size
          have HGX := Lib.hid hgx
          have HYY := Lib.hid hy
          have HXX := Lib.hid (show xs = pre ++ (gx ++ y) from by rw [HXP.out, hrest])
          clear hg7 hp7 q1 q2 jj bb zz hgx hy hrest hcm2
          gi_wp2
          gi_loopw [] (fun wr => ∃ (a m : Nat) (p r : List (Nat × Nat)), a ≤ s.size ∧ gapN (isEndTk tk) s m a = some r ∧ xs = p ++ (r ++ y) ∧ Kq W wr ∧ N1 + 1 < wr.heap.size ∧ J p wr ∧ Pos wr (N1 + 1) 47 s (upTo isBlank s a) [] ∧ wr.heap[N1]? = some (.cells #[.int .i64 tk.kind, .string tk.text, .int .i64 tk.n, .int .i64 tk.man, .int .i64 tk.ex, .int .i64 tk.ofs, .int .i64 tk.en] 37)) (fun wr => s.size - posOf (N1 + 1) wr)
          case atStart => exact ⟨tk.en, s.size + 1, pre, gx, hen, HGX.out, HXX.out, B7.out, Z7, J7.out, Q2.out, Q1.out⟩
          case round =>
            obtain ⟨a, m, p, r, ha, hga, hxp, hbi, hzi, hji, hpi, hoi⟩ := hrel
            obtain ⟨m, rfl, hcase⟩ := gapN_step hga
            have PM := Lib.hid (posOf_is hpi)
            have hi1 := upTo_ge isBlank s a
            have hi2 := upTo_le (f := isBlank) ha
            have hbl : isBlank (byt s (upTo isBlank s a)) = false := upTo_false (by decide) s a
            obtain ⟨i, hie⟩ : ∃ i, i = upTo isBlank s a := ⟨_, rfl⟩
            rw [← hie] at hcase hi1 hi2 hpi PM hbl
            have XP := Lib.hid hxp
            have BI := Lib.hid hbi
            have JI := Lib.hid hji
            have PI := Lib.hid hpi
            have OI := Lib.hid hoi
            have HBL := Lib.hid hbl
            have p1 := hpi.c1
            have v0 : wr.cell? ⟨N1, 0, none⟩ = some (.int .i64 tk.kind) := by simp [World.cell?, hoi]
            have v1 : wr.cell? ⟨N1, 1, none⟩ = some (.string tk.text) := by simp [World.cell?, hoi]
            have v2 : wr.cell? ⟨N1, 2, none⟩ = some (.int .i64 tk.n) := by simp [World.cell?, hoi]
            have v3 : wr.cell? ⟨N1, 3, none⟩ = some (.int .i64 tk.man) := by simp [World.cell?, hoi]
            have v4 : wr.cell? ⟨N1, 4, none⟩ = some (.int .i64 tk.ex) := by simp [World.cell?, hoi]
            have v5 : wr.cell? ⟨N1, 5, none⟩ = some (.int .i64 tk.ofs) := by simp [World.cell?, hoi]
            have v6 : wr.cell? ⟨N1, 6, none⟩ = some (.int .i64 tk.en) := by simp [World.cell?, hoi]
            clear hga hxp hbi hji hpi hoi hie hbl
            gi_wp2
            rcases hcase with ⟨hi, rfl⟩ | ⟨hi, hcase⟩
            · have D := Lib.hid (show ((i : Int) == (s.size : Int)) = true from by simp [hi])
              refine ⟨trivial, callsIn_wide.2 ((done_is PI.out D.out).mono ?_)⟩
              rintro e W8 ⟨rfl, q, rfl⟩
              have JE := Lib.hid (HJ.out p _ _ JI.out (⟨none, grown_drewN (grown_refl _ _) q, fun r e => by cases e⟩ : Turns _ _ _ (wr.drewN q)))
              have BE := Lib.hid (BI.out.drewN q)
              clear hi
              gi_wp2
              go_roundw
              case rel => exact ⟨k + 1, p, y, by omega, by go_num, by rw [XP.out]; rfl, HYY.out, HOK2.out.2.2, BE.out, by simp; omega, JE.out⟩
              case measure => simp [intOf]; omega
            · have D := Lib.hid (show ((i : Int) == (s.size : Int)) = false from by simp; omega)
              have hilt : i < s.size := by omega
              refine ⟨trivial, callsIn_wide.2 ((done_is PI.out D.out).mono ?_)⟩
              rintro e W8 ⟨rfl, q, rfl⟩
              clear hi
              gi_wp2
              refine ⟨trivial, callsIn_wide.2 ((is_any tk 1 ⟨#[101, 110, 100]⟩ _ (xl := [101, 110, 100]) (by rw [ByteArray.toList_eq])).mono ?_)⟩
              rintro e W9 ⟨rfl, hb9⟩
              have G9 : wr.grownBy W9 none := ⟨hb9.os, hb9.tape, hb9.output, hb9.size, fun k hk _ => hb9.block k hk⟩
              have Z9 : N1 + 1 < W9.heap.size := Nat.lt_of_lt_of_le hzi G9.size
              have P9 := Lib.hid (PI.out.kept G9 (by simp))
              have O9 := Lib.hid ((G9.block N1 (by omega) (by simp)).trans OI.out : W9.heap[N1]? = some (.cells #[.int .i64 tk.kind, .string tk.text, .int .i64 tk.n, .int .i64 tk.man, .int .i64 tk.ex, .int .i64 tk.ofs, .int .i64 tk.en] 37))
              have J9 := Lib.hid (HJ.out p _ _ JI.out ⟨none, G9, fun r e => by cases e⟩)
              have B9 := Lib.hid (BI.out.grown0 G9)
              clear hb9 G9 v0 v1 v2 v3 v4 v5 v6 p1
              rcases hcase with ⟨he, r', rfl, hgr⟩ | ⟨he, hts, r', rfl, hgr⟩
              · have E := Lib.hid (show (tk.kind == 1 && tk.text.toList == [101, 110, 100]) = true from he)
                rw [E.out]
                obtain ⟨f, hf⟩ : ∃ f, f = backTo s s.size := ⟨_, rfl⟩
                have XQ := Lib.hid (show xs = p ++ (i, f) :: (r' ++ y) from by rw [XP.out, hf]; rfl)
                rw [← hf] at hgr
                have GR := Lib.hid hgr
                have hfb : i < f ∧ f ≤ s.size := by rw [hf]; have := backTo_gt HBL.out s.size hilt; omega
                have HF := Lib.hid hf
                clear hgr he hf
                gi_wp2
                refine ⟨trivial, callsIn_wide.2 ((passAll_any P9.out hilt HBL.out htz).mono ?_)⟩
                rintro e WX ⟨rfl, hgX, hpX⟩
                skip
                rw [← HF.out] at hpX
                have PX := Lib.hid hpX
                have OX := Lib.hid ((hgX.block N1 (by have := Z9; omega) (by simp)).trans O9.out : WX.heap[N1]? = some (.cells #[.int .i64 tk.kind, .string tk.text, .int .i64 tk.n, .int .i64 tk.man, .int .i64 tk.ex, .int .i64 tk.ofs, .int .i64 tk.en] 37))
                have JX := Lib.hid (HJ.out p _ _ J9.out ⟨some (N1 + 1), hgX, fun r e => by cases e; exact ⟨by omega, _, _, P9.out⟩⟩)
                have BX := Lib.hid (B9.out.grown hgX P9.out)
                have ZX : N1 + 1 < WX.heap.size := Nat.lt_of_lt_of_le Z9 hgX.size
                have pX := hpX.c1
                obtain ⟨fn, tmps, assign, body, hy, hR⟩ := HY.out p (i, f) (r' ++ y) WX XQ.out JX.out
                dsimp only [encP] at hy
                clear hgX hpX
                gi_wp2
                refine hR.mono ?_
                rintro e WY ⟨rfl, hjY, hkY⟩
                have PY := Lib.hid (hkY.pos PX.out)
                have OY := Lib.hid (hkY.tok OX.out)
                have JY := Lib.hid hjY
                have BY := Lib.hid (BX.out.trans hkY.1)
                have ZY : N1 + 1 < WY.heap.size := Nat.lt_of_lt_of_le ZX hkY.1.size
                clear hjY hkY hy
                gi_wp2
                refine ⟨trivial, callsIn_wide.2 ((take_any 1 (by unfold okCls; simp) PY.out hfb.2 htz).mono ?_)⟩
                rintro e WZ ⟨rfl, hgZ, hpZ⟩
                have PZ := Lib.hid (show Pos WZ (N1 + 1) 47 s (upTo isBlank s f) [] from hpZ)
                have OZ := Lib.hid ((hgZ.block N1 (by omega) (by simp)).trans OY.out : WZ.heap[N1]? = some (.cells #[.int .i64 tk.kind, .string tk.text, .int .i64 tk.n, .int .i64 tk.man, .int .i64 tk.ex, .int .i64 tk.ofs, .int .i64 tk.en] 37))
                have JZ := Lib.hid (HJ.out _ _ _ JY.out ⟨some (N1 + 1), hgZ, fun r e => by cases e; exact ⟨by omega, _, _, PY.out⟩⟩)
                have BZ := Lib.hid (BY.out.grown hgZ PY.out)
                have ZZ : N1 + 1 < WZ.heap.size := Nat.lt_of_lt_of_le ZY hgZ.size
                clear hgZ hpZ
                gi_wp2
                go_roundw
                case rel => exact ⟨f, m, p ++ [(i, f)], r', hfb.2, GR.out, by rw [XQ.out, List.append_assoc]; rfl, BZ.out, ZZ, JZ.out, PZ.out, OZ.out⟩
                case measure =>
                  have g1 := upTo_ge isBlank s f
                  have g2 := upTo_le (f := isBlank) hfb.2
                  rw [PM.out, posOf_is PZ.out]
                  omega
              · have E := Lib.hid (show (tk.kind == 1 && tk.text.toList == [101, 110, 100]) = false from he)
                rw [E.out]
                obtain ⟨f, hf⟩ : ∃ f, f = toSemi s i + 1 := ⟨_, rfl⟩
                have XQ := Lib.hid (show xs = p ++ (i, f) :: (r' ++ y) from by rw [XP.out, hf]; rfl)
                rw [← hf] at hgr
                have GR := Lib.hid hgr
                have hfb : i < f ∧ f ≤ s.size := by rw [hf]; have := toSemi_ge s i; omega
                have HF := Lib.hid hf
                clear hgr he hf
                gi_wp2
                refine ⟨trivial, callsIn_wide.2 ((passComment_any P9.out (Nat.le_of_lt hilt) htz).mono ?_)⟩
                rintro e WX ⟨rfl, hgX, hpX⟩
                rw [show semiAt s i = toSemi s i + 1 from if_pos hts] at hpX
                rw [← HF.out] at hpX
                have PX := Lib.hid hpX
                have OX := Lib.hid ((hgX.block N1 (by have := Z9; omega) (by simp)).trans O9.out : WX.heap[N1]? = some (.cells #[.int .i64 tk.kind, .string tk.text, .int .i64 tk.n, .int .i64 tk.man, .int .i64 tk.ex, .int .i64 tk.ofs, .int .i64 tk.en] 37))
                have JX := Lib.hid (HJ.out p _ _ J9.out ⟨some (N1 + 1), hgX, fun r e => by cases e; exact ⟨by omega, _, _, P9.out⟩⟩)
                have BX := Lib.hid (B9.out.grown hgX P9.out)
                have ZX : N1 + 1 < WX.heap.size := Nat.lt_of_lt_of_le Z9 hgX.size
                have pX := hpX.c1
                obtain ⟨fn, tmps, assign, body, hy, hR⟩ := HY.out p (i, f) (r' ++ y) WX XQ.out JX.out
                dsimp only [encP] at hy
                clear hgX hpX
                gi_wp2
                refine hR.mono ?_
                rintro e WY ⟨rfl, hjY, hkY⟩
                have PY := Lib.hid (hkY.pos PX.out)
                have OY := Lib.hid (hkY.tok OX.out)
                have JY := Lib.hid hjY
                have BY := Lib.hid (BX.out.trans hkY.1)
                have ZY : N1 + 1 < WY.heap.size := Nat.lt_of_lt_of_le ZX hkY.1.size
                clear hjY hkY hy
                gi_wp2
                refine ⟨trivial, callsIn_wide.2 ((take_any 1 (by unfold okCls; simp) PY.out hfb.2 htz).mono ?_)⟩
                rintro e WZ ⟨rfl, hgZ, hpZ⟩
                have PZ := Lib.hid (show Pos WZ (N1 + 1) 47 s (upTo isBlank s f) [] from hpZ)
                have OZ := Lib.hid ((hgZ.block N1 (by omega) (by simp)).trans OY.out : WZ.heap[N1]? = some (.cells #[.int .i64 tk.kind, .string tk.text, .int .i64 tk.n, .int .i64 tk.man, .int .i64 tk.ex, .int .i64 tk.ofs, .int .i64 tk.en] 37))
                have JZ := Lib.hid (HJ.out _ _ _ JY.out ⟨some (N1 + 1), hgZ, fun r e => by cases e; exact ⟨by omega, _, _, PY.out⟩⟩)
                have BZ := Lib.hid (BY.out.grown hgZ PY.out)
                have ZZ : N1 + 1 < WZ.heap.size := Nat.lt_of_lt_of_le ZY hgZ.size
                clear hgZ hpZ
                gi_wp2
                go_roundw
                case rel => exact ⟨f, m, p ++ [(i, f)], r', hfb.2, GR.out, by rw [XQ.out, List.append_assoc]; rfl, BZ.out, ZZ, JZ.out, PZ.out, OZ.out⟩
                case measure =>
                  have g1 := upTo_ge isBlank s f
                  have g2 := upTo_le (f := isBlank) hfb.2
                  rw [PM.out, posOf_is PZ.out]
                  omega
      · have H1 := Lib.hid (show J xs wr from by
          have hkl : k = l.length := by omega
          rw [hkl, List.drop_length] at hcm
          have : rest = [] := by simpa [comsL] using hcm.symm
          rw [HXP.out, this, List.append_nil]
          exact HJJ.out)
        gi_wp2
        go_end0
        exact ⟨⟨_, rfl⟩, H1.out⟩

end Go.Proofs.YtnmifeiokhpcfaaDoor
