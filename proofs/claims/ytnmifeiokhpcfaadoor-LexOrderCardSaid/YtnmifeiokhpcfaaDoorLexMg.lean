/-
  PACKAGE lex: tokens and comments of a text lie one behind the other, and all other bytes are blanks; what follows the word end may follow it.
-/
import Derived.Test.YtnmifeiokhpcfaaDoorLexNumP
import Derived.Test.YtnmifeiokhpcfaaDoorLexCov
import Derived.Test.YtnmifeiokhpcfaaDoorLexComsB

namespace Go.Proofs.YtnmifeiokhpcfaaDoor
open Go.RowKit
set_option linter.unusedVariables false

/-- bytes of a text up to n are those of the text -/
theorem ext0_byt {s : ByteArray} {n k : Nat} (hn : n ≤ s.size) (hk : k < n) : byt (s.extract 0 n) k = byt s k := by
  have hz : (s.extract 0 n).size = n := by rw [ByteArray.size_extract]; omega
  rw [byt_in (by omega), byt_in (by omega)]
  congr 1
  simp [ByteArray.getElem_extract]

/-- pieces within f and g, and blanks between -/
def inB (s : ByteArray) : Nat → Nat → List (Nat × Nat) → Prop
  | f, g, [] => f ≤ g ∧ cov s f g = true
  | f, g, x :: r => f ≤ x.1 ∧ x.1 < x.2 ∧ cov s f x.1 = true ∧ inB s x.2 g r

theorem inB_le {s : ByteArray} : ∀ (x : List (Nat × Nat)) (f g : Nat), inB s f g x → f ≤ g := by
  intro x
  induction x with
  | nil => intro f g h; exact h.1
  | cons p r ih => intro f g h; have := ih _ _ h.2.2.2; have := h.1; have := h.2.1; omega

theorem cov_up {s : ByteArray} (a : Nat) : cov s a (upTo isBlank s a) = true := by
  rw [cov_iff]
  intro k h1 h2
  exact upTo_all (k - a) a k (by omega) h1

theorem gapN_inB {e : Bool} {t : ByteArray} : ∀ (n a : Nat) (x : List (Nat × Nat)), a ≤ t.size → gapN e t n a = some x → inB t a t.size x := by
  intro n
  induction n with
  | zero => intro a x _ h; simp [gapN] at h
  | succ n ih =>
    intro a x ha h
    have hu := upTo_ge isBlank t a
    have hu2 := upTo_le (f := isBlank) ha
    unfold gapN at h
    split at h
    · rename_i he
      cases h
      refine ⟨ha, ?_⟩
      rw [← he]
      exact cov_up a
    · rename_i hne
      split at h
      · have hb := backTo_gt (upTo_false (by decide) t a) t.size (by omega)
        obtain ⟨r, hr, hx⟩ := Option.map_eq_some_iff.1 h
        subst hx
        exact ⟨hu, hb.1, cov_up a, ih _ r hb.2 hr⟩
      · split at h
        · rename_i hs
          obtain ⟨r, hr, hx⟩ := Option.map_eq_some_iff.1 h
          subst hx
          exact ⟨hu, Nat.lt_succ_of_le (toSemi_ge _ _), cov_up a, ih _ r (by omega) hr⟩
        · cases h

theorem inB_ext {s : ByteArray} {n : Nat} (hn : n ≤ s.size) : ∀ (x : List (Nat × Nat)) (f : Nat), inB (s.extract 0 n) f n x → inB s f n x := by
  intro x
  have hc : ∀ i j, j ≤ n → cov (s.extract 0 n) i j = true → cov s i j = true := fun i j hj h => by
    rw [cov_iff] at h ⊢
    intro k h1 h2
    rw [← ext0_byt hn (show k < n by omega)]
    exact h k h1 h2
  induction x with
  | nil => intro f h; exact ⟨h.1, hc _ _ (Nat.le_refl _) h.2⟩
  | cons p r ih =>
    intro f h
    have := inB_le _ _ _ h.2.2.2
    have := h.2.1
    exact ⟨h.1, h.2.1, hc _ _ (by omega) h.2.2.1, ih _ h.2.2.2⟩

/-- tokens and comments, one behind the other, with blanks between, from a on -/
inductive Mg (s : ByteArray) : Nat → List Tk → List (Nat × Nat) → Prop
  | done (a : Nat) (h : a ≤ s.size) (h1 : cov s a s.size = true) : Mg s a [] []
  | tok (a : Nat) (t : Tk) (l : List Tk) (x : List (Nat × Nat)) (h1 : a ≤ t.ofs) (h2 : t.ofs < t.en) (h3 : t.en ≤ s.size) (h4 : cov s a t.ofs = true) (h5 : ∀ c ∈ x, t.ofs < c.1) (h6 : Mg s t.en l x) : Mg s a (t :: l) x
  | com (a : Nat) (c : Nat × Nat) (l : List Tk) (x : List (Nat × Nat)) (h1 : a ≤ c.1) (h2 : c.1 < c.2) (h3 : c.2 ≤ s.size) (h4 : cov s a c.1 = true) (h5 : ∀ t ∈ l, c.1 < t.ofs) (h6 : Mg s c.2 l x) : Mg s a l (c :: x)

theorem Mg.from {s : ByteArray} {a : Nat} {l : List Tk} {x : List (Nat × Nat)} (h : Mg s a l x) : a ≤ s.size ∧ (∀ t ∈ l, a ≤ t.ofs) ∧ ∀ c ∈ x, a ≤ c.1 := by
  induction h with
  | done a h _ => exact ⟨h, by simp, by simp⟩
  | tok a t l x h1 h2 h3 h4 h5 _ ih =>
    refine ⟨by omega, fun u hu => ?_, fun c hc => by have := h5 c hc; omega⟩
    rcases List.mem_cons.1 hu with rfl | hu
    · exact h1
    · have := ih.2.1 u hu; omega
  | com a c l x h1 h2 h3 h4 h5 _ ih =>
    refine ⟨by omega, fun u hu => by have := h5 u hu; omega, fun d hd => ?_⟩
    rcases List.mem_cons.1 hd with rfl | hd
    · exact h1
    · have := ih.2.2 d hd; omega

theorem Mg.coms {s : ByteArray} {l : List Tk} {y : List (Nat × Nat)} {g : Nat} : ∀ (x : List (Nat × Nat)) (f : Nat), inB s f g x → (∀ t ∈ l, g ≤ t.ofs) → (∀ f', f' ≤ g → cov s f' g = true → Mg s f' l y) → g ≤ s.size → Mg s f l (x ++ y) := by
  intro x
  induction x with
  | nil => intro f h _ hy _; exact hy f h.1 h.2
  | cons p r ih =>
    intro f h hl hy hg
    have hle := inB_le _ _ _ h.2.2.2
    have := h.2.1
    exact .com f p l (r ++ y) h.1 h.2.1 (by omega) h.2.2.1 (fun t ht => by have := hl t ht; omega) (ih _ h.2.2.2 hl hy hg)

theorem cov_trans {s : ByteArray} {a b c : Nat} (h1 : cov s a b = true) (h2 : cov s b c = true) : cov s a c = true := by
  rw [cov_iff] at *
  intro k h3 h4
  by_cases h : k < b
  · exact h1 k h h4
  · exact h2 k h3 (by omega)

/-- the tokens and the comments of a text behind its first token -/
theorem mg_coms {s : ByteArray} : ∀ (r : List Tk) (t : Tk) (xs : List (Nat × Nat)), (∀ u ∈ t :: r, u.ofs < u.en) → okL s (t :: r) → comsL s (t :: r) = some xs → Mg s t.en r xs := by
  intro r
  induction r with
  | nil =>
    intro t xs hp ho h
    obtain ⟨h1, h2, _⟩ := ho
    simp only [comsL] at h
    split at h
    · rename_i x y hx hy
      cases hy
      cases h
      have hsz : (s.extract 0 (nextAt s [])).size = s.size := by rw [ByteArray.size_extract]; simp only [nextAt]; omega
      have h1' : t.en ≤ s.size := h1
      have hb := gapN_inB _ _ x (by rw [hsz]; exact h1') hx
      rw [hsz] at hb
      have hb' := inB_ext (n := s.size) (Nat.le_refl _) x t.en hb
      exact Mg.coms x t.en hb' (by simp) (fun f' h3 h4 => .done f' h3 h4) (Nat.le_refl _)
    · cases h
  | cons u r ih =>
    intro t xs hp ho h
    obtain ⟨h1, h2, h3⟩ := ho
    have h1' : t.en ≤ u.ofs := h1
    have h2' : u.ofs ≤ s.size := h2
    rw [comsL] at h
    split at h
    · rename_i x y hx hy
      cases h
      have hsz : (s.extract 0 (nextAt s (u :: r))).size = u.ofs := by rw [ByteArray.size_extract]; simp only [nextAt]; omega
      have hb := gapN_inB _ _ x (by rw [hsz]; exact h1') hx
      rw [hsz] at hb
      have hb' := inB_ext (n := u.ofs) h2' x t.en hb
      have hI := ih u y (fun v hv => hp v (by simp [hv])) h3 hy
      have hpu := hp u (by simp)
      have hf := hI.from
      refine Mg.coms x t.en hb' (fun v hv => ?_) (fun f' h4 h5 => .tok f' u r y h4 hpu hf.1 h5 (fun c hc => by have := hf.2.2 c hc; omega) hI) h2'
      rcases List.mem_cons.1 hv with rfl | hv
      · exact Nat.le_refl _
      · have := hf.2.1 v hv; omega
    · cases h

theorem run_stay {nf : Num} {s : ByteArray} (N : NumOk nf s) {i j : Nat} {l l' : List Tk} (h : Run nf s i l j l') : l' = l → mayCom l = false → i = j := by
  intro he hm
  cases h with
  | nil => rfl
  | @cons _ _ b _ l1 _ a1 a2 a3 hr =>
    exfalso
    obtain ⟨X, hX⟩ := (hr.le N).2.2.1
    rcases stepOut_len a3 with ⟨_, h2, _⟩ | ⟨u, h1, _⟩
    · rw [hm] at h2; cases h2
    · rw [hX, h1] at he
      have := congrArg List.length he
      simp at this

theorem mg_scan {nf : Num} {s : ByteArray} (N : NumOk nf s) {l : List Tk} {xs : List (Nat × Nat)} (h : scan nf s (s.size + 1) 0 [] = .ok l) (hp : ∀ u ∈ l, u.ofs < u.en) (ho : okL s l) (hc : comsL s l = some xs) : Mg s 0 l xs := by
  have hr := scan_run N _ _ _ _ (by omega) (by omega) h
  cases l with
  | nil =>
    simp only [comsL, Option.some.injEq] at hc
    subst hc
    have := run_stay N hr rfl rfl
    refine .done 0 (Nat.zero_le _) ?_
    rw [← this]
    exact cov_up 0
  | cons t r =>
    obtain ⟨u, b, c1, r1, c3, c4, c5, c6, r2⟩ := hr.split N 0 (by simp) (by simp)
    have hu : u = t := by simpa using c1.symm
    subst hu
    have h0 := run_stay N r1 (by simp) rfl
    have hI := mg_coms r u xs hp ho hc
    have hf := hI.from
    have hpu := hp u (by simp)
    refine .tok 0 u r xs (Nat.zero_le _) hpu hf.1 ?_ (fun c hc => by have := hf.2.2 c hc; omega) hI
    rw [← h0]
    exact cov_up 0

/-- where reading goes on behind the word end: at the end, at ; or at a word that ends it -/
def Stp (s : ByteArray) (b : Nat) : Prop := s.size ≤ b ∨ byt s b = 59 ∨ stops (s.extract b (upTo isRun s b)).toList = true

theorem cloN_stp {s : ByteArray} : ∀ (n a : Nat), s.size < a + n → Stp s (cloN s n a) := by
  intro n
  induction n with
  | zero => intro a h; exact .inl (by unfold cloN; omega)
  | succ n ih =>
    intro a h
    unfold cloN
    split
    · split
      · rename_i h2; exact .inr (.inr h2)
      · split
        · rename_i hr
          have := run_gt hr
          exact ih _ (by omega)
        · exact ih _ (by omega)
    · rename_i h1
      by_cases hz : a < s.size
      · exact .inr (.inl (by
          cases Nat.decEq (byt s a) 59 with
          | isTrue h => exact h
          | isFalse h => exact absurd ⟨hz, h⟩ h1))
      · exact .inl (by omega)

theorem tok_stp {nf : Num} {s : ByteArray} (hk : ∀ a e t, nf a = .ok (e, t) → isEndTk t = false) {a b : Nat} {u : Tk} (h : tokOut nf s a [] = .ok (b, [u])) : isEndTk u = true → Stp s b := by
  intro he
  unfold tokOut at h
  split at h
  · unfold numOut at h
    cases hn : nf a with
    | error e => rw [hn] at h; cases h
    | ok v =>
      obtain ⟨e, w⟩ := v
      rw [hn] at h
      simp only [Except.ok.injEq, Prod.mk.injEq, List.nil_append, List.cons.injEq, and_true] at h
      obtain ⟨rfl, rfl⟩ := h
      rw [hk _ _ _ hn] at he
      cases he
  · split at h
    · unfold wordOut at h
      split at h
      · split at h
        · simp only [Except.ok.injEq, Prod.mk.injEq, List.nil_append, List.cons.injEq, and_true] at h
          obtain ⟨rfl, rfl⟩ := h
          exact cloN_stp _ _ (by omega)
        · rename_i h4
          simp only [Except.ok.injEq, Prod.mk.injEq, List.nil_append, List.cons.injEq, and_true] at h
          obtain ⟨rfl, rfl⟩ := h
          have : ((s.extract a (upTo isRun s a)).toList == [101, 110, 100]) = true := by simpa [isEndTk] using he
          exact absurd this h4
      · split at h
        · cases h
        · simp only [Except.ok.injEq, Prod.mk.injEq, List.nil_append, List.cons.injEq, and_true] at h
          obtain ⟨rfl, rfl⟩ := h
          simp [isEndTk] at he
    · split at h
      · unfold strOut at h
        split at h
        · split at h
          · cases h
          · simp only [Except.ok.injEq, Prod.mk.injEq, List.nil_append, List.cons.injEq, and_true] at h
            obtain ⟨rfl, rfl⟩ := h
            simp [isEndTk] at he
        · cases h
      · unfold signOut at h
        split at h
        · cases h
        · simp only [Except.ok.injEq, Prod.mk.injEq, List.nil_append, List.cons.injEq, and_true] at h
          obtain ⟨rfl, rfl⟩ := h
          simp [isEndTk] at he

theorem sign59 {s : ByteArray} {a : Nat} (h : byt s a = 59) : signAt s a = ⟨#[59]⟩ := by
  have hlt : a < s.size := by
    by_cases h1 : a < s.size
    · exact h1
    · rw [byt_out (by omega)] at h; omega
  have hb : s.data.toList[a]? = some 59 := by
    rw [byt_in hlt] at h
    rw [List.getElem?_eq_getElem (by simpa using hlt)]
    congr 1
    apply UInt8.toNat_inj.1
    exact h
  have hd : s.data.toList.drop a = 59 :: s.data.toList.drop (a + 1) := by
    rw [List.drop_eq_getElem_cons (by simpa using hlt)]
    congr 1
    rw [List.getElem?_eq_getElem (by simpa using hlt)] at hb
    simpa using hb
  unfold signAt
  rw [hd]
  simp [lgs, signL, Lib.hasPrefix, List.isPrefixOf, ByteArray.size]

theorem tok_may {nf : Num} {s : ByteArray} {a b : Nat} {u : Tk} (ha : a < s.size) (hs : Stp s a) (h : tokOut nf s a [] = .ok (b, [u])) : mayEndTk u = true := by
  rcases hs with hs | hs | hs
  · omega
  · unfold tokOut at h
    rw [hs, if_neg (by decide), if_neg (by decide), if_neg (by decide)] at h
    unfold signOut at h
    rw [sign59 hs, if_neg (by rw [ByteArray.toList_eq]; decide)] at h
    simp only [Except.ok.injEq, Prod.mk.injEq, List.nil_append, List.cons.injEq, and_true] at h
    obtain ⟨_, rfl⟩ := h
    unfold mayEndTk
    have : ((⟨#[59]⟩ : ByteArray).toList == [59]) = true := by rw [ByteArray.toList_eq]; rfl
    simp only [this]
    rfl
  · have hne : (s.extract a (upTo isRun s a)).toList ≠ [] := by
      intro e; rw [e] at hs; cases hs
    have hr : isRun (byt s a) = true := by
      cases hr : isRun (byt s a)
      · exfalso
        apply hne
        rw [upTo_stop hr, ByteArray.toList_eq, Lib.extract_data]
        simp
      · rfl
    have hdg : isDig (byt s a) = false := by
      have h0 : (s.extract a (upTo isRun s a)).data.toList = (s.data.toList.drop a).take (upTo isRun s a - a) := Lib.extract_data _ _ _
      have hgt := run_gt hr
      have h1 : ((s.extract a (upTo isRun s a)).data.toList).head? = s.data.toList[a]? := by
        rw [h0, List.head?_take, if_neg (by omega), List.head?_drop]
      have h2 : ((s.extract a (upTo isRun s a)).data.toList).head? = some 101 := by
        rw [ByteArray.toList_eq] at hs
        unfold stops at hs
        rcases Bool.or_eq_true _ _ ▸ hs with h | h <;> rw [beq_iff_eq] at h <;> rw [h] <;> rfl
      rw [h2] at h1
      rw [byt_list, ← h1]
      decide
    unfold tokOut at h
    rw [hdg, if_neg (by decide), hr, if_pos rfl] at h
    unfold wordOut at h
    have hw : Lib.containsS wordL (s.extract a (upTo isRun s a)) = true := by
      have hx : ∀ y : ByteArray, y ∈ wordL → y.data.toList = (s.extract a (upTo isRun s a)).data.toList → Lib.containsS wordL (s.extract a (upTo isRun s a)) = true := by
        intro y hy h; rw [Lib.containsS_iff]; rw [show s.extract a (upTo isRun s a) = y from (ByteArray.ext (Array.ext' h)).symm]; exact hy
      rw [ByteArray.toList_eq] at hs
      unfold stops at hs
      rcases Bool.or_eq_true _ _ ▸ hs with h | h <;> rw [beq_iff_eq] at h
      · exact hx ⟨#[101, 110, 100]⟩ (by simp [wordL]) h.symm
      · exact hx ⟨#[101, 108, 115, 101]⟩ (by simp [wordL]) h.symm
    rw [if_pos hw] at h
    unfold stops at hs
    split at h
    · rename_i h4
      simp only [Except.ok.injEq, Prod.mk.injEq, List.nil_append, List.cons.injEq, and_true] at h
      obtain ⟨_, rfl⟩ := h
      simp [mayEndTk, isEndTk, h4]
    · rename_i h4
      simp only [Except.ok.injEq, Prod.mk.injEq, List.nil_append, List.cons.injEq, and_true] at h
      obtain ⟨_, rfl⟩ := h
      have h5 : ((s.extract a (upTo isRun s a)).toList == [101, 108, 115, 101]) = true := by
        rcases Bool.or_eq_true _ _ ▸ hs with h | h
        · exact absurd h h4
        · exact h
      simp [mayEndTk, h5]

theorem may_end {l : List Tk} {t : Tk} (h : isEndTk t = true) : mayCom (l ++ [t]) = false := by
  unfold mayCom
  rw [List.getLast?_append]
  unfold isEndTk at h
  simp only [Bool.and_eq_true, beq_iff_eq] at h
  simp [h.1, h.2]

theorem stp_blank {s : ByteArray} {b : Nat} (h : Stp s b) : upTo isBlank s b = b := by
  rcases h with h | h | h
  · exact upTo_end h
  · exact upTo_stop (by rw [h]; decide)
  · cases hb : isBlank (byt s b)
    · exact upTo_stop hb
    · exfalso
      have hr : isRun (byt s b) = false := by
        rcases (isBlank_iff _).1 hb with e | e | e | e <;> rw [e] <;> decide
      rw [upTo_stop hr, ByteArray.toList_eq, Lib.extract_data, Nat.sub_self] at h
      simp [stops] at h

theorem end_run {nf : Num} {s : ByteArray} (N : NumOk nf s) (hk : ∀ a e t, nf a = .ok (e, t) → isEndTk t = false) : ∀ (r : List Tk) (t : Tk) (l1 : List Tk) (b : Nat), (isEndTk t = true → Stp s b) → Run nf s (upTo isBlank s b) (l1 ++ [t]) s.size (l1 ++ [t] ++ r) → endOk (t :: r) := by
  intro r
  induction r with
  | nil => intro t l1 b _ _; exact ⟨fun _ u hu => by simp at hu, trivial⟩
  | cons u r ih =>
    intro t l1 b h3 hr
    obtain ⟨u', b', c1, r1, c3, c4, c5, c6, r2⟩ := hr.split N (l1 ++ [t]).length (Nat.le_refl _) (by simp)
    have hu : u' = u := by
      rw [List.getElem?_append_right (Nat.le_refl _), Nat.sub_self] at c1
      simpa using c1.symm
    subst hu
    rw [List.take_left] at r1 r2
    have r3 := run_first N r2 (by intro h; have := congrArg List.length h; simp at this) c5 c6
    rw [show l1 ++ [t] ++ u' :: r = (l1 ++ [t]) ++ [u'] ++ r from by simp] at r3
    refine ⟨fun he v hv => ?_, ih u' (l1 ++ [t]) b' (tok_stp hk (c6 [])) r3⟩
    have hv' : v = u' := by simpa using hv.symm
    subst hv'
    have hs := h3 he
    have := run_stay N r1 rfl (may_end he)
    rw [stp_blank hs] at this
    subst this
    exact tok_may c3 hs (c6 [])

theorem end_scan {nf : Num} {s : ByteArray} (N : NumOk nf s) (hk : ∀ a e t, nf a = .ok (e, t) → isEndTk t = false) {l : List Tk} (h : scan nf s (s.size + 1) 0 [] = .ok l) : endOk l := by
  cases l with
  | nil => trivial
  | cons t r =>
    have hr := scan_run N _ _ _ _ (by omega) (by omega) h
    obtain ⟨u, b, c1, r1, c3, c4, c5, c6, r2⟩ := hr.split N 0 (by simp) (by simp)
    have hu : u = t := by simpa using c1.symm
    subst hu
    have r3 := run_first N r2 (by simp) c5 c6
    exact end_run N hk r u [] b (tok_stp hk (c6 [])) (by simpa using r3)

end Go.Proofs.YtnmifeiokhpcfaaDoor
