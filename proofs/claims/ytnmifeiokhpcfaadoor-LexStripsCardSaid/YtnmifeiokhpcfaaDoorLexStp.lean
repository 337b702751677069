/-
  PACKAGE lex: the stripped text is read alike, and has no comment.
-/
import Derived.Test.YtnmifeiokhpcfaaDoorLexMg

namespace Go.Proofs.YtnmifeiokhpcfaaDoor
open Go.RowKit
set_option linter.unusedVariables false

/-- a text with a blank in the place of each comment, from a on -/
def stF2 (s : ByteArray) : Nat → List (Nat × Nat) → List UInt8
  | a, [] => s.data.toList.drop a
  | a, x :: r => (s.data.toList.drop a).take (x.1 - a) ++ 32 :: stF2 s x.2 r

theorem stF2_eq {s : ByteArray} : ∀ (xs : List (Nat × Nat)) (p : Nat × List UInt8), (xs.foldl (stF s) p).2 ++ (s.extract (xs.foldl (stF s) p).1 s.size).data.toList = p.2 ++ stF2 s p.1 xs := by
  intro xs
  induction xs with
  | nil =>
    intro p
    simp only [List.foldl_nil, stF2]
    rw [Lib.extract_data, List.take_of_length_le (by rw [List.length_drop, ← Lib.size_eq]; exact Nat.le_refl _)]
  | cons x r ih =>
    intro p
    rw [List.foldl_cons, ih]
    simp only [stF, stF2, Lib.extract_data, List.append_assoc, List.cons_append, List.nil_append]

/-- where the next comment begins -/
def hdC (s : ByteArray) : List (Nat × Nat) → Nat
  | [] => s.size
  | c :: _ => c.1

theorem stF2_drop {s : ByteArray} {a b : Nat} {xs : List (Nat × Nat)} (h1 : a ≤ b) (h2 : b ≤ hdC s xs) (h3 : hdC s xs ≤ s.size) : (stF2 s a xs).drop (b - a) = stF2 s b xs := by
  cases xs with
  | nil =>
    simp only [stF2, List.drop_drop]
    rw [show a + (b - a) = b from by omega]
  | cons c r =>
    simp only [hdC] at h2 h3
    simp only [stF2]
    have hz := Lib.size_eq s
    rw [List.drop_append_of_le_length (by rw [List.length_take, List.length_drop]; omega), List.drop_take, List.drop_drop]
    rw [show a + (b - a) = b from by omega, show c.1 - a - (b - a) = c.1 - b from by omega]

theorem stF2_emb {s S : ByteArray} {a q : Nat} {xs : List (Nat × Nat)} (h1 : a ≤ hdC s xs) (h2 : hdC s xs ≤ s.size) (h3 : q ≤ S.size) (h : S.data.toList.drop q = stF2 s a xs) : Emb s S a q (hdC s xs - a) := by
  have hz := Lib.size_eq s
  have hZ := Lib.size_eq S
  have hl := congrArg List.length h
  rw [List.length_drop] at hl
  cases xs with
  | nil =>
    simp only [hdC] at *
    simp only [stF2, List.length_drop] at hl h
    refine ⟨by omega, by omega, ?_, .inl (byt_out (by omega))⟩
    rw [h]
  | cons c r =>
    simp only [hdC] at *
    simp only [stF2, List.length_append, List.length_take, List.length_drop, List.length_cons] at hl
    simp only [stF2] at h
    have ht : ((s.data.toList.drop a).take (c.1 - a)).length = c.1 - a := by rw [List.length_take, List.length_drop]; omega
    refine ⟨by omega, by omega, ?_, .inr (.inl ?_)⟩
    · rw [h, List.take_append_of_le_length (by omega), List.take_of_length_le (by omega)]
    · rw [byt_list]
      have e : S.data.toList[q + (c.1 - a)]? = (S.data.toList.drop q)[c.1 - a]? := by rw [List.getElem?_drop]
      rw [e, h, List.getElem?_append_right (by omega), ht, Nat.sub_self]
      rfl

def Tk.key (t : Tk) : Tk := { t with ofs := 0, en := 0 }
theorem key_mv (t : Tk) (p q : Nat) : (t.mv p q).key = t.key := rfl
theorem key_may {t u : Tk} (h : t.key = u.key) : mayEndTk t = mayEndTk u := by
  have h1 : t.kind = u.kind := show t.key.kind = u.key.kind by rw [h]
  have h2 : t.text = u.text := show t.key.text = u.key.text by rw [h]
  unfold mayEndTk isEndTk
  rw [h1, h2]

/-- nothing but blanks between the tokens -/
def tight (S : ByteArray) : Nat → List Tk → Prop
  | q, [] => upTo isBlank S q = S.size
  | q, u :: r => upTo isBlank S q = u.ofs ∧ tight S u.en r
theorem tight_up {S : ByteArray} {q q' : Nat} (h : upTo isBlank S q = upTo isBlank S q') {l : List Tk} (ht : tight S q' l) : tight S q l := by
  cases l with
  | nil => exact h.trans ht
  | cons u r => exact ⟨h.trans ht.1, ht.2⟩

/-- what is read at a token's offset -/
def TokOf (nf : Num) (s : ByteArray) (t : Tk) : Prop := t.ofs < s.size ∧ isBlank (byt s t.ofs) = false ∧ ((s.extract t.ofs (upTo isRun s t.ofs)).toList == comL) = false ∧ ∃ b, ∀ L, tokOut nf s t.ofs L = .ok (b, L ++ [t])

theorem tok_closer {nf : Num} {s : ByteArray} (hk : ∀ a e t, nf a = .ok (e, t) → isEndTk t = false) {a b : Nat} {u : Tk} (h : tokOut nf s a [] = .ok (b, [u])) : isEndTk u = true → b = closer s u.en := by
  intro he
  unfold tokOut at h
  split at h
  · unfold numOut at h
    cases hn : nf a with
    | error e => rw [hn] at h; cases h
    | ok v =>
      obtain ⟨e, w⟩ := v
      rw [hn] at h
      simp only [Except.ok.injEq, Prod.mk.injEq, List.nil_append, List.cons.injEq, and_true] at h
      obtain ⟨rfl, rfl⟩ := h
      rw [hk _ _ _ hn] at he
      cases he
  · split at h
    · unfold wordOut at h
      split at h
      · split at h
        · simp only [Except.ok.injEq, Prod.mk.injEq, List.nil_append, List.cons.injEq, and_true] at h
          obtain ⟨rfl, rfl⟩ := h
          rfl
        · rename_i h4
          simp only [Except.ok.injEq, Prod.mk.injEq, List.nil_append, List.cons.injEq, and_true] at h
          obtain ⟨rfl, rfl⟩ := h
          have : ((s.extract a (upTo isRun s a)).toList == [101, 110, 100]) = true := by simpa [isEndTk] using he
          exact absurd this h4
      · split at h
        · cases h
        · simp only [Except.ok.injEq, Prod.mk.injEq, List.nil_append, List.cons.injEq, and_true] at h
          obtain ⟨rfl, rfl⟩ := h
          simp [isEndTk] at he
    · split at h
      · unfold strOut at h
        split at h
        · split at h
          · cases h
          · simp only [Except.ok.injEq, Prod.mk.injEq, List.nil_append, List.cons.injEq, and_true] at h
            obtain ⟨rfl, rfl⟩ := h
            simp [isEndTk] at he
        · cases h
      · unfold signOut at h
        split at h
        · cases h
        · simp only [Except.ok.injEq, Prod.mk.injEq, List.nil_append, List.cons.injEq, and_true] at h
          obtain ⟨rfl, rfl⟩ := h
          simp [isEndTk] at he

theorem sign_59 {s : ByteArray} {a : Nat} (h : (signAt s a).toList = [59]) : byt s a = 59 := by
  have key : signAt s a = ⟨#[]⟩ ∨ (signAt s a ∈ signL ∧ Lib.hasPrefix (s.data.toList.drop a) (signAt s a).data.toList = true) := by
    unfold signAt
    exact lgs_in _ _ _
  rw [ByteArray.toList_eq] at h
  rcases key with q | ⟨_, q2⟩
  · rw [q] at h; cases h
  · rw [h] at q2
    unfold Lib.hasPrefix at q2
    rw [List.isPrefixOf_iff_prefix] at q2
    obtain ⟨y, hy⟩ := q2
    rw [byt_list]
    have e : s.data.toList[a]? = (s.data.toList.drop a)[0]? := by rw [List.getElem?_drop]; rfl
    rw [e, ← hy]
    rfl

theorem may_stp {nf : Num} {s : ByteArray} (hk : ∀ a e t, nf a = .ok (e, t) → mayEndTk t = false) {a b : Nat} {u : Tk} (h : tokOut nf s a [] = .ok (b, [u])) : mayEndTk u = true → Stp s a := by
  intro he
  unfold tokOut at h
  split at h
  · unfold numOut at h
    cases hn : nf a with
    | error e => rw [hn] at h; cases h
    | ok v =>
      obtain ⟨e, w⟩ := v
      rw [hn] at h
      simp only [Except.ok.injEq, Prod.mk.injEq, List.nil_append, List.cons.injEq, and_true] at h
      obtain ⟨rfl, rfl⟩ := h
      rw [hk _ _ _ hn] at he
      cases he
  · split at h
    · unfold wordOut at h
      split at h
      · have hh : stops (s.extract a (upTo isRun s a)).toList = true := by
          split at h
          all_goals
            simp only [Except.ok.injEq, Prod.mk.injEq, List.nil_append, List.cons.injEq, and_true] at h
            obtain ⟨rfl, rfl⟩ := h
            simpa [mayEndTk, isEndTk, stops] using he
        exact .inr (.inr hh)
      · split at h
        · cases h
        · simp only [Except.ok.injEq, Prod.mk.injEq, List.nil_append, List.cons.injEq, and_true] at h
          obtain ⟨rfl, rfl⟩ := h
          simp [mayEndTk, isEndTk] at he
    · split at h
      · unfold strOut at h
        split at h
        · split at h
          · cases h
          · simp only [Except.ok.injEq, Prod.mk.injEq, List.nil_append, List.cons.injEq, and_true] at h
            obtain ⟨rfl, rfl⟩ := h
            simp [mayEndTk, isEndTk] at he
        · cases h
      · unfold signOut at h
        split at h
        · cases h
        · simp only [Except.ok.injEq, Prod.mk.injEq, List.nil_append, List.cons.injEq, and_true] at h
          obtain ⟨rfl, rfl⟩ := h
          exact .inr (.inl (sign_59 (by simpa [mayEndTk, isEndTk] using he)))

theorem ext_none {s : ByteArray} {a : Nat} (h : isRun (byt s a) = false) : (s.extract a (upTo isRun s a)).toList = [] := by
  rw [upTo_stop h, ByteArray.toList_eq, Lib.extract_data, Nat.sub_self]
  rfl

theorem clo_blank {S : ByteArray} : ∀ (n q : Nat), S.size < q + n → Stp S (upTo isBlank S q) → cloN S n q = upTo isBlank S q := by
  intro n
  induction n with
  | zero => intro q h _; rw [upTo_end (by omega)]; rfl
  | succ n ih =>
    intro q h hs
    unfold cloN
    by_cases hb : isBlank (byt S q) = true
    · have hq : q < S.size := by
        by_cases h1 : q < S.size
        · exact h1
        · rw [byt_out (by omega)] at hb; cases hb
      have hr : isRun (byt S q) = false := by
        rcases (isBlank_iff _).1 hb with e | e | e | e <;> rw [e] <;> decide
      have h59 : byt S q ≠ 59 := by
        intro e; rw [e] at hb; cases hb
      rw [if_pos ⟨hq, h59⟩, ext_none hr, if_neg (by decide), hr, if_neg (by decide)]
      rw [upTo_step hq hb] at hs ⊢
      exact ih (q + 1) (by omega) hs
    · have hb' : isBlank (byt S q) = false := by simpa using hb
      rw [upTo_stop hb'] at hs ⊢
      split
      · rename_i h1
        rcases hs with hs | hs | hs
        · omega
        · exact absurd hs h1.2
        · rw [if_pos hs]
      · rfl

theorem cov_ge {s : ByteArray} {b : Nat} (hb : b ≤ s.size) : ∀ d a, a + d = b → cov s a b = true → b ≤ upTo isBlank s a := by
  intro d
  induction d with
  | zero => intro a h _; have := upTo_ge isBlank s a; omega
  | succ d ih =>
    intro a h hc
    rw [cov_iff] at hc
    rw [upTo_step (by omega) (hc a (by omega) (Nat.le_refl _))]
    exact ih (a + 1) (by omega) (cov_iff.2 fun k h1 h2 => hc k h1 (by omega))

theorem cov_eq {s : ByteArray} {a b : Nat} (ha : a ≤ b) (hb : b ≤ s.size) (hc : cov s a b = true) (hn : isBlank (byt s b) = false) : upTo isBlank s a = b := by
  have h1 := cov_ge hb (b - a) a (by omega) hc
  rcases Nat.lt_or_ge b (upTo isBlank s a) with h | h
  · have := upTo_all (f := isBlank) (s := s) (b - a) a b (by omega) h
    rw [hn] at this
    cases this
  · omega

theorem Mg.hd {s : ByteArray} {a : Nat} {l : List Tk} {x : List (Nat × Nat)} (h : Mg s a l x) : a ≤ hdC s x ∧ hdC s x ≤ s.size := by
  have hf := h.from
  cases x with
  | nil => exact ⟨hf.1, Nat.le_refl _⟩
  | cons c r =>
    refine ⟨hf.2.2 c (by simp), ?_⟩
    have : ∀ a l x, Mg s a l x → ∀ c ∈ x, c.1 ≤ s.size := by
      intro a l x h
      induction h with
      | done a h _ => simp
      | tok a t l x h1 h2 h3 h4 h5 _ ih => exact ih
      | com a c l x h1 h2 h3 h4 h5 _ ih =>
        intro d hd
        rcases List.mem_cons.1 hd with rfl | hd
        · omega
        · exact ih d hd
    exact this _ _ _ h c (by simp)

theorem end_iff {t : Tk} : isEndTk t = true ↔ isEndT t := by
  unfold isEndTk isEndT
  simp

/-- THE STRIPPED TEXT IS READ ALIKE -/
theorem strip_run {nf nf' : Num} {s S : ByteArray} (N : NumOk nf s) (N' : NumOk nf' S) (hk' : ∀ a e t, nf' a = .ok (e, t) → mayEndTk t = false) (hnn : ∀ p q m, Emb s S p q m → NumE nf nf' p q m) {a : Nat} {l : List Tk} {xs : List (Nat × Nat)} (h : Mg s a l xs) :
    (∀ t ∈ l, TokOf nf s t) → (∀ c ∈ xs, Bd s c.1) → endOk l → ∀ q L, q ≤ S.size → S.data.toList.drop q = stF2 s a xs → L.length + l.length ≤ 131072 →
    ∃ l', l'.map Tk.key = l.map Tk.key ∧ tight S q l' ∧ Run nf' S (upTo isBlank S q) L S.size (L ++ l') := by
  have hk2 : ∀ a e t, nf' a = .ok (e, t) → isEndTk t = false := fun a e t h => by
    have := hk' a e t h
    unfold mayEndTk at this
    simp only [Bool.or_eq_false_iff] at this
    exact this.1.2
  induction h with
  | done a h hc =>
    intro _ _ _ q L hq hd _
    have E := stF2_emb (xs := []) (s := s) h (Nat.le_refl _) hq hd
    simp only [hdC] at E
    have hl := congrArg List.length hd
    simp only [stF2, List.length_drop, ← Lib.size_eq] at hl
    have := E.over (f := isBlank) (s.size - a) 0 (by omega) (by have := cov_ge (Nat.le_refl _) (s.size - a) a (by omega) hc; simpa using (by omega : a + (s.size - a) ≤ upTo isBlank s a))
    rw [Nat.add_zero, upTo_end (show S.size ≤ q + (s.size - a) by omega)] at this
    have hu : upTo isBlank S q = S.size := by omega
    refine ⟨[], rfl, hu, ?_⟩
    rw [hu, List.append_nil]
    exact .nil _ _
  | com a c l x h1 h2 h3 h4 h5 hM ih =>
    intro ht hb he q L hq hd hL
    have E := stF2_emb (xs := c :: x) (s := s) h1 (by simp only [hdC]; omega) hq hd
    simp only [hdC] at E
    have hsl := E.sl
    have e1 := E.over (f := isBlank) (c.1 - a) 0 (by omega) (by have := cov_ge (show c.1 ≤ s.size by omega) (c.1 - a) a (by omega) h4; simpa using (by omega : a + (c.1 - a) ≤ upTo isBlank s a))
    rw [Nat.add_zero] at e1
    have hd2 : S.data.toList.drop (q + (c.1 - a)) = 32 :: stF2 s c.2 x := by
      rw [← List.drop_drop, hd]
      simp only [stF2]
      have hz := Lib.size_eq s
      rw [List.drop_append, List.drop_of_length_le (by rw [List.length_take, List.length_drop]; omega), List.length_take, List.length_drop, Nat.min_eq_left (by omega), Nat.sub_self]
      rfl
    have hZ := Lib.size_eq S
    have hl2 := congrArg List.length hd2
    simp only [List.length_drop, List.length_cons] at hl2
    have hb32 : byt S (q + (c.1 - a)) = 32 := by
      rw [byt_list]
      have e : S.data.toList[q + (c.1 - a)]? = (S.data.toList.drop (q + (c.1 - a)))[0]? := by rw [List.getElem?_drop]; rfl
      rw [e, hd2]
      rfl
    have e2 : upTo isBlank S (q + (c.1 - a)) = upTo isBlank S (q + (c.1 - a) + 1) := upTo_step (by omega) (by rw [hb32]; decide)
    have hd3 : S.data.toList.drop (q + (c.1 - a) + 1) = stF2 s c.2 x := by
      rw [← List.drop_drop, hd2]
      rfl
    obtain ⟨l', g1, g2, g3⟩ := ih ht (fun d hd => hb d (by simp [hd])) he (q + (c.1 - a) + 1) L (by omega) hd3 hL
    have e3 := e1.trans e2
    exact ⟨l', g1, tight_up e3 g2, by rw [e3]; exact g3⟩
  | tok a t l x h1 h2 h3 h4 h5 hM ih =>
    intro ht hb he q L hq hd hL
    obtain ⟨t1, t2, t3, b, t4⟩ := ht t (by simp)
    have hMh := hM.hd
    have hal : a ≤ hdC s x := by omega
    have E0 := stF2_emb (xs := x) (s := s) hal hMh.2 hq hd
    have hsl0 := E0.sl
    have hua := cov_eq h1 (by omega) h4 t2
    obtain ⟨y, y1, y2, y3, y4⟩ := E0.upTo (f := isBlank) (hdC s x - a) 0 (by omega) (by rw [Nat.add_zero, hua]; omega) (.inr (by rw [Nat.add_zero, hua]; omega))
    rw [Nat.add_zero] at y3 y4
    have hy : y = t.ofs - a := by omega
    subst hy
    have hd1 : S.data.toList.drop (q + (t.ofs - a)) = stF2 s t.ofs x := by
      rw [← List.drop_drop, hd, stF2_drop h1 (by omega) hMh.2]
    have E := stF2_emb (xs := x) (s := s) (show t.ofs ≤ hdC s x by omega) hMh.2 (by omega) hd1
    have hbd : Bd s (t.ofs + (hdC s x - t.ofs)) := by
      rw [show t.ofs + (hdC s x - t.ofs) = hdC s x from by omega]
      cases x with
      | nil => exact Bd.stop (by rw [show hdC s [] = s.size from rfl, byt_out (Nat.le_refl _)]; decide)
      | cons c r => exact hb c (by simp)
    obtain ⟨z1, z2, z3, b', z4, z5, z6⟩ := E.tok hbd N (hnn _ _ _ E) (x := 0) (by omega) (by simpa using t4 []) (by omega)
    rw [Nat.add_zero] at z4 z5
    generalize hq1 : q + (t.ofs - a) = q1 at *
    have hm : t.ofs + (hdC s x - t.ofs) = hdC s x := by omega
    have hd2 : S.data.toList.drop (q1 + (t.en - t.ofs)) = stF2 s t.en x := by
      rw [← List.drop_drop, hd1, stF2_drop (by omega) hMh.1 hMh.2]
    have hsl := E.sl
    obtain ⟨l2, g1, g2, g3⟩ := ih (fun u hu => ht u (by simp [hu])) hb he.2 (q1 + (t.en - t.ofs)) (L ++ [t.mv t.ofs q1]) (by omega) hd2 (by simp only [List.length_append, List.length_cons, List.length_nil] at hL ⊢; omega)
    have hofs : (t.mv t.ofs q1).ofs = q1 := by show t.ofs - t.ofs + q1 = q1; omega
    have hen : (t.mv t.ofs q1).en = q1 + (t.en - t.ofs) := by show t.en - t.ofs + q1 = _; omega
    refine ⟨t.mv t.ofs q1 :: l2, by simp [g1, key_mv], ⟨by rw [hofs]; exact y4, by rw [hen]; exact g2⟩, ?_⟩
    rw [y4]
    have hnb : isBlank (byt S q1) = false := by
      have := E.byt (show 0 < hdC s x - t.ofs by omega)
      rw [Nat.add_zero, Nat.add_zero] at this
      rw [this]; exact t2
    have hnc : ((S.extract q1 (upTo isRun S q1)).toList == comL) = false := by
      obtain ⟨v, v1, v2, v3, v4⟩ := E.up (f := isRun) (x := 0) (Nat.zero_le _) (by rw [Nat.add_zero]; exact hbd.run (by omega)) (by decide) (by decide) (by decide)
      rw [Nat.add_zero] at v3 v4
      have := E.ext 0 v2
      rw [Nat.add_zero, Nat.add_zero] at this
      rw [v4, this, ← v3]
      exact t3
    have htk : ∀ L, tokOut nf' S q1 L = .ok (b', L ++ [t.mv t.ofs q1]) := by
      obtain ⟨u, e, hu⟩ := tok_any z4
      obtain rfl : t.mv t.ofs q1 = u := by simpa using e
      exact hu
    have hst : stepOut nf' S q1 L = .ok (b', L ++ [t.mv t.ofs q1]) := by
      unfold stepOut
      rw [hnc, if_neg (by decide), if_neg (by simp only [List.length_cons] at hL; omega)]
      exact htk L
    have hup : upTo isBlank S b' = upTo isBlank S (q1 + (t.en - t.ofs)) := by
      cases hen2 : isEndTk t
      · have hb1 := tok_end N t1 (t4 []) hen2
        by_cases hlt : b < t.ofs + (hdC s x - t.ofs)
        · have := (z5 hlt).2
          rw [this]
          congr 1
          omega
        · rcases z6 (by omega) with ⟨k1, k2⟩ | ⟨k1, _⟩
          · rw [k1]
            congr 1
            omega
          · rw [end_iff.2 k1] at hen2; cases hen2
      · have he' : isEndTk (t.mv t.ofs q1) = true := hen2
        have hc := tok_closer hk2 (htk []) he'
        rw [hen] at hc
        have hs : Stp S (upTo isBlank S (q1 + (t.en - t.ofs))) := by
          generalize hw : upTo isBlank S (q1 + (t.en - t.ofs)) = w at *
          cases l2 with
          | nil => exact .inl (by rw [← hw]; exact Nat.le_of_eq g2.symm)
          | cons v r =>
            generalize hLL : L ++ [t.mv t.ofs q1] ++ v :: r = LL at g3
            generalize hSS : S.size = SS at g3
            cases g3 with
            | nil => exact .inl (by omega)
            | @cons _ _ b2 _ l3 _ a1 a2 a3 hr =>
              obtain ⟨X, hX⟩ := (hr.le N').2.2.1
              rcases stepOut_len a3 with ⟨_, k2, _⟩ | ⟨v', k1, _, _, k4⟩
              · rw [may_end he'] at k2; cases k2
              · rw [k1] at hX
                have hv : v' = v := by
                  have := congrArg (fun z => z[(L ++ [t.mv t.ofs q1]).length]?) (hLL.trans hX)
                  simp only [List.append_assoc] at this
                  simpa using this.symm
                subst hv
                refine may_stp hk' (k4 []) ?_
                cases l with
                | nil => simp at g1
                | cons u r2 =>
                  have hkey : v'.key = u.key := by simpa using (List.cons.inj g1).1
                  rw [key_may hkey]
                  exact he.1 hen2 u rfl
        rw [hc, show closer S (q1 + (t.en - t.ofs)) = upTo isBlank S (q1 + (t.en - t.ofs)) from clo_blank _ _ (by omega) hs, stp_blank hs]
    refine .cons (by omega) hnb hst ?_
    rw [hup, show L ++ t.mv t.ofs q1 :: l2 = L ++ [t.mv t.ofs q1] ++ l2 from by simp]
    exact g3

theorem gap_bd {e : Bool} {t : ByteArray} : ∀ (n a : Nat) (x : List (Nat × Nat)), a ≤ t.size → Bd t a → gapN e t n a = some x → ∀ c ∈ x, Bd t c.1 ∧ c.1 < t.size := by
  intro n
  induction n with
  | zero => intro a x _ _ h; simp [gapN] at h
  | succ n ih =>
    intro a x ha hb h
    have hu := upTo_ge isBlank t a
    have hu2 := upTo_le (f := isBlank) ha
    unfold gapN at h
    split at h
    · cases h; simp
    · rename_i hne
      split at h
      · rename_i he
        have hbk := backTo_gt (upTo_false (by decide) t a) t.size (by omega)
        obtain ⟨r, hr, hx⟩ := Option.map_eq_some_iff.1 h
        subst hx
        have hall := backTo_all t.size (Nat.le_refl _) (t.size - backTo t t.size) (backTo t t.size) (by omega) (Nat.le_refl _)
        rw [upTo_end (Nat.le_refl t.size)] at hall
        have hr2 : r = [] := by
          cases n with
          | zero => simp [gapN] at hr
          | succ n =>
            unfold gapN at hr
            rw [if_pos hall] at hr
            cases hr; rfl
        subst hr2
        intro c hc
        simp only [List.mem_cons, List.not_mem_nil, or_false] at hc
        subst hc
        exact ⟨hb.blank, by simp only; omega⟩
      · split at h
        · rename_i hs
          obtain ⟨r, hr, hx⟩ := Option.map_eq_some_iff.1 h
          subst hx
          intro c hc
          simp only [List.mem_cons] at hc
          rcases hc with rfl | hc
          · exact ⟨hb.blank, by simp only; omega⟩
          · refine ih _ r (by omega) (Bd.prev ?_) hr c hc
            have := upTo_false (f := noSemi) (by decide) t (upTo isBlank t a)
            have h256 : byt t (toSemi t (upTo isBlank t a)) < 256 := by rw [byt_in hs]; exact UInt8.toNat_lt _
            have e59 : byt t (toSemi t (upTo isBlank t a)) = 59 := by
              unfold toSemi at *
              generalize byt t (upTo noSemi t (upTo isBlank t a)) = bb at *
              unfold noSemi at this
              simp only [Bool.and_eq_false_iff, bne_eq_false_iff_eq, decide_eq_false_iff_not] at this
              omega
            rw [e59]; decide
        · cases h

theorem bd_ext {s : ByteArray} {n m : Nat} (hn : n ≤ s.size) (hm : m < n) (h : Bd (s.extract 0 n) m) : Bd s m := by
  intro hr
  rw [← ext0_byt hn hm] at hr
  rcases h hr with h1 | h1
  · exact .inl h1
  · exact .inr (by rw [← ext0_byt hn (show m - 1 < n by omega)]; exact h1)

theorem bd_to {s : ByteArray} {n m : Nat} (hn : n ≤ s.size) (hm : m ≤ n) (h : Bd s m) : Bd (s.extract 0 n) m := by
  intro hr
  have hz : (s.extract 0 n).size = n := by rw [ByteArray.size_extract]; omega
  have hlt : m < n := by
    by_cases q : m < n
    · exact q
    · rw [byt_out (by omega)] at hr; cases hr
  rw [ext0_byt hn hlt] at hr
  rcases h hr with h1 | h1
  · exact .inl h1
  · by_cases h0 : m = 0
    · exact .inl h0
    · exact .inr (by rw [ext0_byt hn (show m - 1 < n by omega)]; exact h1)

theorem coms_bd {s : ByteArray} : ∀ (l : List Tk) (xs : List (Nat × Nat)), (∀ u ∈ l, Bd s u.en) → okL s l → comsL s l = some xs → ∀ c ∈ xs, Bd s c.1 := by
  intro l
  induction l with
  | nil => intro xs _ _ h; simp only [comsL, Option.some.injEq] at h; subst h; simp
  | cons t r ih =>
    intro xs hb ho h
    obtain ⟨h1, h2, h3⟩ := ho
    simp only [comsL] at h
    split at h
    · rename_i x y hx hy
      cases h
      have hz : (s.extract 0 (nextAt s r)).size = nextAt s r := by rw [ByteArray.size_extract]; omega
      intro c hc
      rcases List.mem_append.1 hc with hc | hc
      · have := gap_bd _ _ x (by omega) (bd_to h2 h1 (hb t (by simp))) hx c hc
        exact bd_ext h2 (by omega) this.1
      · exact ih y (fun u hu => hb u (by simp [hu])) h3 hy c hc
    · cases h

theorem coms_tight {S : ByteArray} : ∀ (r : List Tk) (t : Tk), okL S (t :: r) → tight S t.en r → comsL S (t :: r) = some [] := by
  have hg : ∀ (e : Bool) (a n : Nat), n ≤ S.size → a ≤ n → upTo isBlank S a = n → gapN e (S.extract 0 n) (S.size + 1) a = some [] := by
    intro e a n hn ha hu
    have hc : Cut S (S.extract 0 n) n := ⟨rfl, hn⟩
    unfold gapN
    rw [hc.upTo' (f := isBlank) (by decide) ha (by omega), hc.size, if_pos hu]
  intro r
  induction r with
  | nil =>
    intro t ho ht
    obtain ⟨h1, h2, _⟩ := ho
    unfold comsL
    rw [hg _ _ _ h2 h1 (show upTo isBlank S t.en = S.size from ht)]
    simp [comsL]
  | cons u r ih =>
    intro t ho ht
    obtain ⟨h1, h2, h3⟩ := ho
    rw [comsL, hg _ _ _ h2 h1 ht.1, ih u h3 ht.2]
    rfl

theorem tokof_scan {nf : Num} {s : ByteArray} (N : NumOk nf s) {l : List Tk} (h : scan nf s (s.size + 1) 0 [] = .ok l) : ∀ t ∈ l, TokOf nf s t ∧ Bd s t.en := by
  intro t ht
  obtain ⟨k, hk, e⟩ := List.mem_iff_getElem.1 ht
  have hr := scan_run N _ _ _ _ (by omega) (by omega) h
  obtain ⟨u, b, c1, r1, c3, c4, c5, c6, r2⟩ := hr.split N k (by simp) hk
  rw [List.getElem?_eq_getElem hk, e] at c1
  obtain rfl := Option.some.inj c1
  exact ⟨⟨c3, c4, c5, b, c6⟩, tok_bd N c3 (c6 [])⟩

theorem stF2_len {s : ByteArray} {l : List Tk} : ∀ {a : Nat} {xs : List (Nat × Nat)}, Mg s a l xs → (stF2 s a xs).length ≤ s.size - a := by
  have hz := Lib.size_eq s
  intro a xs h
  induction h with
  | done a h _ => simp only [stF2, List.length_drop]; omega
  | tok a t l x h1 h2 h3 h4 h5 hM ih =>
    have hh := hM.hd
    have := stF2_drop (s := s) (a := a) (b := t.en) (xs := x) (by omega) hh.1 hh.2
    have := congrArg List.length this
    rw [List.length_drop] at this
    omega
  | com a c l x h1 h2 h3 h4 h5 hM ih =>
    simp only [stF2, List.length_append, List.length_take, List.length_drop, List.length_cons]
    omega

/-- LEX AND COMMENTS OF THE STRIPPED TEXT -/
theorem strip_scan {nf nf' : Num} {s S : ByteArray} (N : NumOk nf s) (N' : NumOk nf' S) (hk : ∀ a e t, nf a = .ok (e, t) → isEndTk t = false) (hk' : ∀ a e t, nf' a = .ok (e, t) → mayEndTk t = false) (hnn : ∀ p q m, Emb s S p q m → NumE nf nf' p q m) {l : List Tk} {xs : List (Nat × Nat)}
    (h : scan nf s (s.size + 1) 0 [] = .ok l) (hl : l.length ≤ 131072) (hp : ∀ u ∈ l, u.ofs < u.en) (ho : okL s l) (hc : comsL s l = some xs) (hS : S.data.toList = stripV s xs) :
    ∃ l', scan nf' S (S.size + 1) 0 [] = .ok l' ∧ l'.map Tk.key = l.map Tk.key ∧ (∀ ys, comsL S l' = some ys → okL S l' → ys = []) ∧ S.size ≤ s.size := by
  have hM := mg_scan N h hp ho hc
  have hT := tokof_scan N h
  have hE := end_scan N hk h
  have hB := coms_bd l xs (fun u hu => (hT u hu).2) ho hc
  have hd : S.data.toList.drop 0 = stF2 s 0 xs := by
    rw [List.drop_zero, hS]
    have := stF2_eq (s := s) xs (0, [])
    simpa [stripV, stL] using this
  obtain ⟨l', g1, g2, g3⟩ := strip_run N N' hk' hnn hM (fun t ht => (hT t ht).1) hB hE 0 [] (Nat.zero_le _) hd (by simpa using hl)
  refine ⟨l', run_scan N' g3 rfl _ 0 (Nat.zero_le _) rfl (by omega), g1, fun ys hys hoS => ?_, ?_⟩
  · cases l' with
    | nil => simp only [comsL, Option.some.injEq] at hys; exact hys.symm
    | cons t r =>
      rw [coms_tight r t hoS g2.2] at hys
      exact (Option.some.inj hys).symm
  · have h1 := stF2_len hM
    have h2 := congrArg List.length hd
    rw [List.drop_zero, ← Lib.size_eq] at h2
    omega

theorem numN_may {s : ByteArray} : ∀ a e t, numN s a = .ok (e, t) → mayEndTk t = false := by
  intro a e t h
  unfold numN at h
  split at h
  · split at h
    · cases h
    · split at h
      · split at h
        · cases h; rfl
        · cases h
      · split at h
        · cases h; rfl
        · cases h
  · cases h

theorem same_key : ∀ (l l' : List Tk), l'.map Tk.key = l.map Tk.key → sameT (l.map Tk.to) (l'.map Tk.to) = true := by
  intro l
  induction l with
  | nil => intro l' h; cases l' with
    | nil => rfl
    | cons u r => simp at h
  | cons t l ih =>
    intro l' h
    cases l' with
    | nil => simp at h
    | cons u r =>
      simp only [List.map_cons, List.cons.injEq] at h
      simp only [List.map_cons, sameT, Bool.and_eq_true]
      refine ⟨?_, ih r h.2⟩
      have h1 : t.kind = u.kind := show t.key.kind = u.key.kind by rw [h.1]
      have h2 : t.text = u.text := show t.key.text = u.key.text by rw [h.1]
      have h3 : t.n = u.n := show t.key.n = u.key.n by rw [h.1]
      have h4 : t.man = u.man := show t.key.man = u.key.man by rw [h.1]
      have h5 : t.ex = u.ex := show t.key.ex = u.key.ex by rw [h.1]
      simp [alikeT, Tk.to, h1, h2, h3, h4, h5]

end Go.Proofs.YtnmifeiokhpcfaaDoor
