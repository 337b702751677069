/-
  PACKAGE lex: the scanner's state; fail, is.
-/
import Derived.Test.YtnmifeiokhpcfaaDoorLex4
import Derived.BigQuiet
import Derived.Deep.QuietTactic
import Derived.OwnWalk
import Derived.WalkLawsBesides

namespace Go.Proofs.YtnmifeiokhpcfaaDoor
open Go.RowKit
set_option linter.unusedVariables false

/-- a token -/
structure Tk where
  kind : Int
  text : ByteArray
  n : Int
  man : Int
  ex : Int
  ofs : Nat
  en : Nat
  deriving DecidableEq
def Tk.cells (t : Tk) : List Value := [.int .i64 t.kind, .string t.text, .int .i64 t.n, .int .i64 t.man, .int .i64 t.ex, .int .i64 t.ofs, .int .i64 t.en]
abbrev Tk.val (t : Tk) : Value := .agg #[.int .i64 t.kind, .string t.text, .int .i64 t.n, .int .i64 t.man, .int .i64 t.ex, .int .i64 t.ofs, .int .i64 t.en]
def cellsOf (l : List Tk) : List Value := l.flatMap Tk.cells
theorem cellsOf_length (l : List Tk) : (cellsOf l).length = l.length * 7 := by
  induction l with
  | nil => rfl
  | cons t l ih => simp only [cellsOf, List.flatMap_cons, List.length_append, List.length_cons] at ih ⊢; rw [ih]; simp [Tk.cells]; omega
theorem cellsOf_snoc (l : List Tk) (t : Tk) : cellsOf (l ++ [t]) = cellsOf l ++ t.cells := by simp [cellsOf]
theorem cellsOf_get (l : List Tk) (k j : Nat) (hj : j < 7) (t : Tk) (h : l[k]? = some t) : (cellsOf l)[k * 7 + j]? = t.cells[j]? := by
  induction l generalizing k with
  | nil => simp at h
  | cons x l ih =>
    have hx : x.cells.length = 7 := rfl
    cases k with
    | zero =>
      simp only [List.getElem?_cons_zero, Option.some.injEq] at h
      subst h
      simp only [cellsOf, List.flatMap_cons, Nat.zero_mul, Nat.zero_add]
      rw [List.getElem?_append_left (by omega)]
    | succ k =>
      simp only [List.getElem?_cons_succ] at h
      simp only [cellsOf, List.flatMap_cons]
      rw [List.getElem?_append_right (by omega), hx, show (k + 1) * 7 + j - 7 = k * 7 + j from by omega]
      exact ih k h

/-- the scanner lies in block B: it has come to a, began a token at st, and has the tokens l -/
def Sc (w : World) (B : Nat) (s : ByteArray) (a : Nat) (st : Nat) (l : List Tk) : Prop :=
  ∃ v, Pos w B 49 s a [.int .i64 st, v] ∧ w.ownsRow (B + 1) 37 7 v l.length (cellsOf l)

theorem Sc.moved {w w' : World} {B : Nat} {s : ByteArray} {b st' : Nat} {l : List Tk} {v : Value} (hg : w.grownBy w' (some B)) (ho : w.ownsRow (B + 1) 37 7 v l.length (cellsOf l))
    (hp : Pos w' B 49 s b [.int .i64 st', v]) : Sc w' B s b st' l := by
  refine ⟨v, hp, ho.kept hg ?_⟩
  cases h : v.ownBlock with
  | none => exact .inl rfl
  | some k => exact .inr (fun e => by have := (ho.lt k h).1; cases e; omega)
theorem below_grown {w w' : World} {B : Nat} (hB : B ≤ w.heap.size) (hg : w.grownBy w' (some B)) : Below B w w' :=
  (Below.refl B w).grown hg hB (fun k e => by cases e; exact Nat.le_refl _)
theorem Sc.lt {w : World} {B : Nat} {s : ByteArray} {a st : Nat} {l : List Tk} (h : Sc w B s a st l) : B < w.heap.size := by
  obtain ⟨v, hp, _⟩ := h
  exact hp.lt
theorem Sc.kept {w w' : World} {B : Nat} {s : ByteArray} {a st : Nat} {l : List Tk} (h : Sc w B s a st l) (hb : Below w.heap.size w w') : Sc w' B s a st l := by
  obtain ⟨v, hp, ho⟩ := h
  have hg : w.grownBy w' none := ⟨hb.os, hb.tape, hb.output, hb.size, fun k hk _ => hb.block k hk⟩
  exact ⟨v, hp.kept hg (by simp), ho.kept hg (by cases v.ownBlock <;> simp)⟩
theorem Sc.c2 {w : World} {B : Nat} {s : ByteArray} {a st : Nat} {l : List Tk} (h : Sc w B s a st l) : w.cell? ⟨B, 2, none⟩ = some (.int .i64 st) := by
  obtain ⟨v, hp, _⟩ := h
  exact cells_get hp

/-- what the scanner panics with -/
def failP (e st : Int) : List PanicEntry := [{ v := .iface 44 (.agg #[.int .i64 e, .int .i64 st]), recovered := false }]

theorem carry {w w' : World} {a : Addr} {v : Value} (h : Below w.heap.size w w') (hc : w.cell? a = some v) : w'.cell? a = some v := (h.cell (World.block_lt_of_cell? w a hc)).trans hc
theorem carryF {w w' : World} {a : Addr} {v : Value} (h : Below w.heap.size w w') (hc : w.cell? a = some v) (hf : w.frozen? a = false) : w'.frozen? a = false := (h.frozen (World.block_lt_of_cell? w a hc)).trans hf

theorem fail_any {w : World} {B : Nat} {s : ByteArray} {a st : Nat} {l : List Tk} (e : Int) (h : Sc w B s a st l) :
    Calls Tryd.prog 26 #[.pointer (some ⟨B, 0, none⟩), .int .i64 e] w fun r w' => r = .panicked (failP e st) ∧ w = w' := by
  have c2 := h.c2
  clear h
  go_enter Tryd.func26, Tryd.ntmps26
  go_wp2_with fail
  first | (exact ⟨rfl, rfl⟩) | (show _ ∧ _; exact ⟨rfl, rfl⟩) | (simp [bodyPost, failP]; done) | trace_state

theorem is_any (t : Tk) (k : Int) (x : ByteArray) (w : World) {xl : List UInt8} (hxl : x.toList = xl) :
    Calls Tryd.prog 15 #[t.val, .int .i64 k, .string x] w fun r w' => r = .returned (.bool (t.kind == k && t.text.toList == xl)) ∧ Below w.heap.size w w' := by
  subst hxl
  go_enter Tryd.func15, Tryd.ntmps15
  have B1 := Lib.hid (show ∀ o, Below w.heap.size w (w.alloc o) from fun o => (Below.refl _ _).alloc (Nat.le_refl _) _)
  by_cases hk : t.kind = k
  · have HK := Lib.hid (show (t.kind == k) = true from by simp [hk])
    go_wp2_with fail
    go_ret
    exact ⟨by rw [HK.out, Bool.true_and]; rfl, B1.out _⟩
  · have HK := Lib.hid (show (t.kind == k) = false from by simp [hk])
    go_wp2_with fail
    go_ret
    exact ⟨by rw [HK.out, Bool.false_and]; rfl, B1.out _⟩

/-- the last cells of the tokens, in memory -/
theorem Sc.last {w : World} {B : Nat} {s : ByteArray} {a st : Nat} {l : List Tk} {t : Tk} (h : Sc w B s a st (l ++ [t])) :
    ∃ g cap, w.cell? ⟨B, 3, none⟩ = some (.slice (some ⟨g, 0, none⟩) (l.length + 1) cap) ∧ B < g ∧ g < w.heap.size ∧ l.length + 1 ≤ cap ∧ cap ≤ maxLen ∧
      ∀ j, j < 7 → w.cell? ⟨g, l.length * 7 + j, none⟩ = t.cells[j]? := by
  obtain ⟨v, hp, ho⟩ := h
  have h3 : w.cell? ⟨B, 3, none⟩ = some v := cells_get hp
  rcases ho.2 with ⟨_, hn⟩ | ⟨g, cap, cur, rfl, hb, hg, hn, hc, hs, ht⟩
  · simp at hn
  · simp only [List.length_append, List.length_cons, List.length_nil] at hn ht h3
    refine ⟨g, cap, h3, hb, cells_lt hg, hn, hc, fun j hj => ?_⟩
    rw [cell_of_row w g (l.length * 7 + j) cur 37 (0, 0) hg]
    have h1 : (cellsOf (l ++ [t]))[l.length * 7 + j]? = t.cells[j]? := cellsOf_get _ _ _ hj t (by simp)
    rw [← h1, ← ht, List.getElem?_take, if_pos (by omega)]
    simp

def mayCom (l : List Tk) : Bool := match l.getLast? with
  | none => false
  | some t => (t.kind == 6 && t.text.toList == [59]) || (t.kind == 1 && t.text.toList == [98, 101, 103, 105, 110])

theorem mayComment_any {w : World} {B : Nat} {s : ByteArray} {a st : Nat} {l : List Tk} (h : Sc w B s a st l) (hl : l.length ≤ 131072) :
    Calls Tryd.prog 39 #[.pointer (some ⟨B, 0, none⟩)] w fun r w' => r = .returned (.bool (mayCom l)) ∧ Below w.heap.size w w' := by
  rcases List.eq_nil_or_concat l with rfl | ⟨l, t, rfl⟩
  · obtain ⟨v, hp, ho⟩ := h
    have h3 : w.cell? ⟨B, 3, none⟩ = some v := cells_get hp
    rcases ho.2 with ⟨rfl, _⟩ | ⟨g, cap, cur, rfl, hb, hg, hn, hc, hs, ht⟩
    · clear ho hp
      go_enter Tryd.func39, Tryd.ntmps39
      go_wp2_with fail
      go_ret
      exact ⟨rfl, Below.refl _ _⟩
    · clear ho hp
      go_enter Tryd.func39, Tryd.ntmps39
      go_wp2_with fail
      go_ret
      exact ⟨rfl, Below.refl _ _⟩
  · simp only [List.concat_eq_append] at h hl ⊢
    obtain ⟨g, cap, h3, hg1, hg2, hc1, hc2, hj⟩ := h.last
    have j0 := hj 0 (by decide)
    have j1 := hj 1 (by decide)
    have j2 := hj 2 (by decide)
    have j3 := hj 3 (by decide)
    have j4 := hj 4 (by decide)
    have j5 := hj 5 (by decide)
    have j6 := hj 6 (by decide)
    simp only [Tk.cells, List.getElem?_cons_zero, List.getElem?_cons_succ] at j0 j1 j2 j3 j4 j5 j6
    simp only [Nat.add_zero] at j0
    clear h hj
    go_enter Tryd.func39, Tryd.ntmps39
    have k1 : ((l.length : Int) + 1 == 0) = false := by simp; omega
    have k2 : (0 : Int) ≤ (l.length : Int) := by omega
    have hB : B < w.heap.size := by omega
    have hln : (l.length : Int) ≤ 131071 := by simp at hl; omega
    have hln' : l.length ≤ 131071 := by omega

    go_wp2_with fail
    have hm : mayCom (l ++ [t]) = ((t.kind == 6 && t.text.toList == [59]) || (t.kind == 1 && t.text.toList == [98, 101, 103, 105, 110])) := by simp [mayCom]
    have HM := Lib.hid hm
    clear hm
    go_region
    go_wp2_with fail
    refine (is_any t 6 ⟨#[59]⟩ _ (xl := [59]) (by rw [ByteArray.toList_eq])).mono ?_
    rintro r w1 ⟨rfl, hb1⟩
    have n0 : w1.cell? ⟨w.heap.size, 0, none⟩ = some (.int .i64 t.kind) := carry hb1 (by go_simp)
    have n1 : w1.cell? ⟨w.heap.size, 1, none⟩ = some (.string t.text) := carry hb1 (by go_simp)
    have n2 : w1.cell? ⟨w.heap.size, 2, none⟩ = some (.int .i64 t.n) := carry hb1 (by go_simp)
    have n3 : w1.cell? ⟨w.heap.size, 3, none⟩ = some (.int .i64 t.man) := carry hb1 (by go_simp)
    have n4 : w1.cell? ⟨w.heap.size, 4, none⟩ = some (.int .i64 t.ex) := carry hb1 (by go_simp)
    have n5 : w1.cell? ⟨w.heap.size, 5, none⟩ = some (.int .i64 t.ofs) := carry hb1 (by go_simp)
    have n6 : w1.cell? ⟨w.heap.size, 6, none⟩ = some (.int .i64 t.en) := carry hb1 (by go_simp)
    have hz : w.heap.size < w1.heap.size := by have := hb1.size; simp at this; omega
    have HB1 := Lib.hid (((Below.refl w.heap.size w).alloc (Nat.le_refl _) (.cells #[.int .i64 t.kind, .string t.text, .int .i64 t.n, .int .i64 t.man, .int .i64 t.ex, .int .i64 t.ofs, .int .i64 t.en] 37)).drew.trans (hb1.mono (by simp)))
    clear hb1
    cases hx : (t.kind == 6 && t.text.toList == [59])
    · rw [hx, Bool.false_or] at HM
      clear hx
      go_wp2_with fail
      refine (is_any t 1 ⟨#[98, 101, 103, 105, 110]⟩ _ (xl := [98, 101, 103, 105, 110]) (by rw [ByteArray.toList_eq])).mono ?_
      rintro r w2 ⟨rfl, hb2⟩
      have HB2 := Lib.hid (HB1.out.trans (hb2.mono (by omega)))
      clear hb2
      go_wp2_with fail
      go_ret
      exact ⟨by rw [HM.out]; rfl, HB2.out⟩
    · rw [hx, Bool.true_or] at HM
      clear hx
      go_wp2_with fail
      go_ret
      exact ⟨by rw [HM.out]; rfl, HB1.out⟩

end Go.Proofs.YtnmifeiokhpcfaaDoor
