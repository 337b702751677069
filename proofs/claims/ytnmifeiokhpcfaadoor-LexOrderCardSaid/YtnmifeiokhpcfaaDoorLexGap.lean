/-
  PACKAGE lex: the gaps between tokens hold comments and blanks: Comments and Strip at any text.
-/
import Derived.Test.YtnmifeiokhpcfaaDoorLexEmb
import Derived.Test.YtnmifeiokhpcfaaDoorLex16
import Derived.Test.YtnmifeiokhpcfaaDoorLexShift

namespace Go.Proofs.YtnmifeiokhpcfaaDoor
open Go.RowKit
set_option linter.unusedVariables false

theorem okC_le {s : ByteArray} : ∀ (x : List (Nat × Nat)) (f f' : Nat), f' ≤ f → okC s f x → okC s f' x := by
  intro x
  cases x with
  | nil => intro f f' h h1; exact Nat.le_trans h h1
  | cons p r => intro f f' h h1; exact ⟨Nat.le_trans h h1.1, h1.2⟩

/-- the pieces lie within f and g -/
def inC : Nat → Nat → List (Nat × Nat) → Prop
  | f, g, [] => f ≤ g
  | f, g, x :: r => f ≤ x.1 ∧ x.1 < x.2 ∧ inC x.2 g r

theorem inC_okC {s : ByteArray} : ∀ (x : List (Nat × Nat)) (f g : Nat) (y : List (Nat × Nat)), g ≤ s.size → inC f g x → okC s g y → okC s f (x ++ y) := by
  intro x
  induction x with
  | nil => intro f g y hg h hy; exact okC_le _ _ _ h hy
  | cons p r ih =>
    intro f g y hg h hy
    have hle : ∀ (r : List (Nat × Nat)) (f : Nat), inC f g r → f ≤ g := by
      intro r
      induction r with
      | nil => intro f h; exact h
      | cons q r ih => intro f h; have := ih _ h.2.2; have := h.1; have := h.2.1; omega
    have := hle r _ h.2.2
    exact ⟨h.1, Nat.le_of_lt h.2.1, by omega, ih _ _ _ hg h.2.2 hy⟩

theorem backTo_all {s : ByteArray} : ∀ n, n ≤ s.size → ∀ d k, k + d = n → backTo s n ≤ k → upTo isBlank s k = upTo isBlank s n := by
  intro n
  induction n with
  | zero => intro _ d k hk _; rw [show k = 0 from by omega]
  | succ n ih =>
    intro hn d k hk hb
    unfold backTo at hb
    split at hb
    · rename_i hbl
      by_cases he : k = n + 1
      · rw [he]
      · have h1 := ih (by omega) (d - 1) k (by omega) hb
        rw [h1, upTo_step (by omega) hbl]
    · rw [show k = n + 1 from by omega]

theorem gap_end {t : ByteArray} {a : Nat} (ha : a ≤ t.size) (f : Nat) : ∃ x, gapN true t (f + 2) a = some x ∧ inC a t.size x := by
  have hu := upTo_ge isBlank t a
  have hu2 := upTo_le (f := isBlank) ha
  unfold gapN
  by_cases h : upTo isBlank t a = t.size
  · rw [if_pos h]
    exact ⟨[], rfl, ha⟩
  · rw [if_neg h, if_pos rfl]
    have hb := backTo_gt (upTo_false (by decide) t a) t.size (by omega)
    have hall := backTo_all t.size (Nat.le_refl _) (t.size - backTo t t.size) (backTo t t.size) (by omega) (Nat.le_refl _)
    rw [upTo_end (Nat.le_refl t.size)] at hall
    unfold gapN
    rw [if_pos hall]
    exact ⟨_, rfl, hu, hb.1, hb.2⟩

theorem run_same {nf : Num} {s : ByteArray} (N : NumOk nf s) {i j : Nat} {l l' : List Tk} (h : Run nf s i l j l') : l' = l → i = j ∨ (i < s.size ∧ isBlank (byt s i) = false ∧ toSemi s i < s.size ∧ toSemi s i + 1 ≤ j ∧ Run nf s (upTo isBlank s (toSemi s i + 1)) l j l) := by
  intro he
  cases h with
  | nil => exact .inl rfl
  | @cons _ _ b _ l1 _ a1 a2 a3 hr =>
    right
    obtain ⟨X, hX⟩ := (hr.le N).2.2.1
    rcases stepOut_len a3 with ⟨h1, h2, h3, h4, h5⟩ | ⟨u, h1, _⟩
    · have hj := (hr.le N).1
      have hu := upTo_ge isBlank s b
      subst h5
      rw [h1, he] at hr
      exact ⟨a1, a2, h4, by omega, hr⟩
    · exfalso
      rw [hX, h1] at he
      have := congrArg List.length he
      simp at this

theorem gap_com {nf : Num} {s : ByteArray} (N : NumOk nf s) {n : Nat} (hn : n ≤ s.size) {l : List Tk} : ∀ (f a : Nat), n - a < f → a ≤ n → Run nf s (upTo isBlank s a) l n l → ∃ x, gapN false (s.extract 0 n) f a = some x ∧ inC a n x := by
  have hc : Cut s (s.extract 0 n) n := ⟨rfl, hn⟩
  have hsz := hc.size
  intro f
  induction f with
  | zero => intro a h; omega
  | succ f ih =>
    intro a hf ha hr
    have hle := (hr.le N).1
    have hu := upTo_ge isBlank s a
    have hb : upTo isBlank (s.extract 0 n) a = upTo isBlank s a := hc.upTo' (f := isBlank) (by decide) ha hle
    unfold gapN
    rw [hb, hsz]
    rcases run_same N hr rfl with h | ⟨h1, h2, h3, h4, h5⟩
    · rw [if_pos h]
      exact ⟨[], rfl, ha⟩
    · have hs : toSemi (s.extract 0 n) (upTo isBlank s a) = toSemi s (upTo isBlank s a) := hc.upTo' (f := noSemi) (by decide) hle (show toSemi s (upTo isBlank s a) ≤ n by omega)
      have hts := toSemi_ge s (upTo isBlank s a)
      rw [if_neg (by omega), if_neg (by decide), hs, if_pos (by omega)]
      obtain ⟨x, e, hx⟩ := ih (toSemi s (upTo isBlank s a) + 1) (by omega) h4 h5
      rw [e]
      exact ⟨_, rfl, hu, by simp only; omega, hx⟩

/-- what the first step of a run from a token on is -/
theorem run_first {nf : Num} {s : ByteArray} (N : NumOk nf s) {i j b : Nat} {l l' : List Tk} {u : Tk} (h : Run nf s i l j l') (hne : l' ≠ l) (hc : ((s.extract i (upTo isRun s i)).toList == comL) = false) (ht : ∀ L, tokOut nf s i L = .ok (b, L ++ [u])) : Run nf s (upTo isBlank s b) (l ++ [u]) j l' := by
  cases h with
  | nil => exact absurd rfl hne
  | @cons _ _ b' _ l1 _ a1 a2 a3 hr =>
    rcases stepOut_len a3 with ⟨_, _, h3, _⟩ | ⟨v, h1, _, _, h4⟩
    · rw [hc] at h3; cases h3
    · have e := (h4 l).symm.trans (ht l)
      simp only [Except.ok.injEq, Prod.mk.injEq] at e
      obtain ⟨rfl, e2⟩ := e
      rw [h1, e2] at hr
      exact hr

theorem tok_end {nf : Num} {s : ByteArray} (N : NumOk nf s) {a b : Nat} {u : Tk} (ha : a < s.size) (h : tokOut nf s a [] = .ok (b, [u])) : isEndTk u = false → b = u.en := by
  intro he
  unfold tokOut at h
  split at h
  · unfold numOut at h
    cases hn : nf a with
    | error e => rw [hn] at h; cases h
    | ok v =>
      obtain ⟨e, w⟩ := v
      rw [hn] at h
      simp only [Except.ok.injEq, Prod.mk.injEq, List.nil_append, List.cons.injEq, and_true] at h
      obtain ⟨rfl, rfl⟩ := h
      exact (N.en _ _ _ hn).2.2.2.symm
  · split at h
    · unfold wordOut at h
      split at h
      · split at h
        · rename_i h4
          simp only [Except.ok.injEq, Prod.mk.injEq, List.nil_append, List.cons.injEq, and_true] at h
          obtain ⟨rfl, rfl⟩ := h
          simp [isEndTk, h4] at he
        · simp only [Except.ok.injEq, Prod.mk.injEq, List.nil_append, List.cons.injEq, and_true] at h
          obtain ⟨rfl, rfl⟩ := h
          rfl
      · split at h
        · cases h
        · simp only [Except.ok.injEq, Prod.mk.injEq, List.nil_append, List.cons.injEq, and_true] at h
          obtain ⟨rfl, rfl⟩ := h
          rfl
    · split at h
      · unfold strOut at h
        split at h
        · split at h
          · cases h
          · simp only [Except.ok.injEq, Prod.mk.injEq, List.nil_append, List.cons.injEq, and_true] at h
            obtain ⟨rfl, rfl⟩ := h
            rfl
        · cases h
      · unfold signOut at h
        split at h
        · cases h
        · simp only [Except.ok.injEq, Prod.mk.injEq, List.nil_append, List.cons.injEq, and_true] at h
          obtain ⟨rfl, rfl⟩ := h
          rfl

/-- the comments behind a token and those that follow -/
theorem coms_run {nf : Num} {s : ByteArray} (N : NumOk nf s) : ∀ (r : List Tk) (t : Tk) (l1 : List Tk) (b : Nat), 0 < s.size → t.en ≤ b → b ≤ s.size → (isEndTk t = false → b = t.en) → Run nf s (upTo isBlank s b) (l1 ++ [t]) s.size (l1 ++ [t] ++ r) → ∃ xs, comsL s (t :: r) = some xs ∧ okC s t.en xs ∧ okL s (t :: r) := by
  intro r
  induction r with
  | nil =>
    intro t l1 b hs0 h1 h2 h3 hr
    rw [List.append_nil] at hr
    have hx : ∃ x, gapN (isEndTk t) (s.extract 0 s.size) (s.size + 1) t.en = some x ∧ inC t.en s.size x := by
      cases he : isEndTk t
      · rw [h3 he] at hr
        exact gap_com N (Nat.le_refl _) (s.size + 1) t.en (by omega) (by omega) hr
      · have hsz : (s.extract 0 s.size).size = s.size := by rw [ByteArray.size_extract]; omega
        have := gap_end (t := s.extract 0 s.size) (a := t.en) (by omega) (s.size - 1)
        rw [hsz, show s.size - 1 + 2 = s.size + 1 from by omega] at this
        exact this
    obtain ⟨x, e, hx⟩ := hx
    refine ⟨x, ?_, ?_, ⟨by simp only [nextAt]; omega, Nat.le_refl _, trivial⟩⟩
    · unfold comsL
      rw [show nextAt s [] = s.size from rfl, e]
      simp [comsL]
    · have := inC_okC x t.en s.size [] (Nat.le_refl _) hx (Nat.le_refl _)
      simpa using this
  | cons u r ih =>
    intro t l1 b hs0 h1 h2 h3 hr
    obtain ⟨u', b', c1, r1, c3, c4, c5, c6, r2⟩ := hr.split N (l1 ++ [t]).length (Nat.le_refl _) (by simp)
    have hu : u' = u := by
      rw [List.getElem?_append_right (Nat.le_refl _), Nat.sub_self] at c1
      simpa using c1.symm
    subst hu
    rw [List.take_left] at r1 r2
    have hto := tokOut_tok (l := []) N.en c3 (c6 [])
    obtain ⟨o1, v, e1, o2, o3, o4⟩ := hto
    obtain rfl : u' = v := by simpa using e1
    have r3 := run_first N r2 (by intro h; have := congrArg List.length h; simp at this) c5 c6
    rw [show l1 ++ [t] ++ u' :: r = (l1 ++ [t]) ++ [u'] ++ r from by simp] at r3
    obtain ⟨ys, y1, y2, y3⟩ := ih u' (l1 ++ [t]) b' hs0 o4 o1 (tok_end N c3 (c6 [])) r3
    have hle := (r1.le N).1
    have hub := upTo_ge isBlank s b
    have hx : ∃ x, gapN (isEndTk t) (s.extract 0 u'.ofs) (s.size + 1) t.en = some x ∧ inC t.en u'.ofs x := by
      cases he : isEndTk t
      · rw [h3 he] at r1
        have := h3 he
        exact gap_com N (by omega) (s.size + 1) t.en (by omega) (by omega) r1
      · have hsz : (s.extract 0 u'.ofs).size = u'.ofs := by rw [ByteArray.size_extract]; omega
        have := gap_end (t := s.extract 0 u'.ofs) (a := t.en) (by omega) (s.size - 1)
        rw [hsz, show s.size - 1 + 2 = s.size + 1 from by omega] at this
        exact this
    obtain ⟨x, e, hx⟩ := hx
    refine ⟨x ++ ys, ?_, ?_, ⟨by simp only [nextAt]; omega, by simp only [nextAt]; omega, y3⟩⟩
    · unfold comsL
      rw [show nextAt s (u' :: r) = u'.ofs from rfl, e, y1]
    · exact inC_okC x t.en u'.ofs ys (by omega) hx (okC_le _ _ _ (by omega) y2)

/-- COMMENTS AT ANY TEXT without an error -/
theorem coms_any {nf : Num} {s : ByteArray} (N : NumOk nf s) {l : List Tk} (h : scan nf s (s.size + 1) 0 [] = .ok l) : ∃ xs, comsL s l = some xs ∧ okC s 0 xs ∧ okL s l := by
  cases l with
  | nil => exact ⟨[], rfl, Nat.zero_le _, trivial⟩
  | cons t r =>
    have hr := scan_run N _ _ _ _ (by omega) (by omega) h
    obtain ⟨u, b, c1, r1, c3, c4, c5, c6, r2⟩ := hr.split N 0 (by simp) (by simp)
    have hu : u = t := by simpa using c1.symm
    subst hu
    have hto := tokOut_tok (l := []) N.en c3 (c6 [])
    obtain ⟨o1, v, e1, o2, o3, o4⟩ := hto
    obtain rfl : u = v := by simpa using e1
    have r3 := run_first N r2 (by simp) c5 c6
    obtain ⟨xs, x1, x2, x3⟩ := coms_run N r u [] b (by omega) o4 o1 (tok_end N c3 (c6 [])) (by simpa using r3)
    exact ⟨xs, x1, okC_le _ _ _ (Nat.zero_le _) x2, x3⟩

theorem okC_len {s : ByteArray} : ∀ (x : List (Nat × Nat)) (f : Nat), okC s f x → f ≤ s.size := by
  intro x
  cases x with
  | nil => intro f h; exact h
  | cons p r => intro f h; exact Nat.le_trans h.1 (Nat.le_trans h.2.1 h.2.2.1)

/-- Strip at any text without an error -/
theorem strip_all {s : ByteArray} {w : World} {l : List Tk} (hs : s.size ≤ 1048576) (ht1 : TabAt w w.heap.size 0 wordL) (ht2 : TabAt w w.heap.size 1 signL) (hP : re.P10 w) (hr : scan (numN s) s (s.size + 1) 0 [] = .ok l) :
    ∃ xs, comsL s l = some xs ∧ okC s 0 xs ∧ (xs.length ≤ 10000000 → ∀ w1, Below w.heap.size w w1 → Calls Tryd.prog 10 #[.string s] w1 fun e w' => e = .returned (.tuple #[.string ⟨(stripV s xs).toArray⟩, .int .i64 0, .int .i64 0]) ∧ Below w1.heap.size w1 w') := by
  obtain ⟨xs, h1, h2, h3⟩ := coms_any (numN_good s) hr
  refine ⟨xs, h1, h2, fun hx w1 hb => ?_⟩
  refine strip_any l xs hs (tk_len (numN_good s) hr) hx (fun w' hb' => ?_) h3 h1 h2
  have hbw := hb.trans (hb'.mono hb.size)
  have := lex_all (w := w') hs ((ht1.kept hbw (Nat.le_refl _)).mono hbw.size) ((ht2.kept hbw (Nat.le_refl _)).mono hbw.size) (hP.kept hbw (Nat.le_refl _))
  rw [hr] at this
  exact this

end Go.Proofs.YtnmifeiokhpcfaaDoor
