/-
  A slice of tokens that came in, opened: tokens, cell by cell.
-/
import Derived.Test.YtnocgfddpdjjeaaDoorTok2
import Derived.Deep.Slices
import Derived.ProofKit
import Derived.OpenShut

namespace Go.Proofs.YtnocgfddpdjjeaaDoor
open Go.ChangeShapes Go.WideShapes Go.RowKit
set_option linter.unusedVariables false
variable {H : Type} {enc : TypeId × Value → H} {W : World} {base : Nat} {spare : Nat → Bool} {held : Bool}

theorem some_of {α : Type} {x : Option α} {l : List α} {j n : Nat} (h : x = l[j]?) (hl : l.length = n) (hj : j < n) : ∃ y, x = some y := by
  subst hl
  exact ⟨l[j], h.trans (List.getElem?_eq_getElem hj)⟩
theorem read_int {n : Nat} {c : Value} {x : Option (DataW H × List MemPlace)} (h : DataW.trod enc Tryd.prog W base spare held n 3 [c] = x) (hx : ∃ y, x = some y) : ∃ k, c = .int .i64 k := by
  obtain ⟨y, rfl⟩ := hx
  obtain ⟨k, hk, _⟩ := DataW.trod_int Tryd.underlying3 h
  exact ⟨k, by simpa using hk⟩
theorem read_string {n : Nat} {c : Value} {x : Option (DataW H × List MemPlace)} (h : DataW.trod enc Tryd.prog W base spare held n 9 [c] = x) (hx : ∃ y, x = some y) : ∃ k, c = .string k := by
  obtain ⟨y, rfl⟩ := hx
  obtain ⟨k, hk, _⟩ := DataW.trod_string Tryd.underlying9 h
  exact ⟨k, by simpa using hk⟩
theorem cInt : Tryd.prog.cellsOf 3 = 1 := by kernel_rfl
theorem cString : Tryd.prog.cellsOf 9 = 1 := by kernel_rfl
theorem cReal : Tryd.prog.cellsOf 45 = 2 := by kernel_rfl
theorem cToken : Tryd.prog.cellsOf 47 = 7 := by kernel_rfl
theorem read_real {n : Nat} {c c2 : Value} {x : Option (DataW H × List MemPlace)} (h : DataW.trod enc Tryd.prog W base spare held n 45 [c, c2] = x) (hx : ∃ y, x = some y) : ∃ k k2, c = .int .i64 k ∧ c2 = .int .i64 k2 := by
  obtain ⟨y, rfl⟩ := hx
  obtain ⟨xs, n', _, _, _, hlen, hf⟩ := DataW.trod_struct Tryd.underlying45 h
  have f0 : DataW.trod enc Tryd.prog W base spare held n' 3 (([c, c2].drop 0).take (Tryd.prog.cellsOf 3)) = xs[0]? := hf 0 _ rfl
  rw [cInt] at f0
  have f1 : DataW.trod enc Tryd.prog W base spare held n' 3 (([c, c2].drop 1).take (Tryd.prog.cellsOf 3)) = xs[1]? := hf 1 _ rfl
  rw [cInt] at f1
  obtain ⟨k, hk⟩ := read_int f0 (some_of rfl hlen (by decide))
  obtain ⟨k2, hk2⟩ := read_int f1 (some_of rfl hlen (by decide))
  exact ⟨k, k2, hk, hk2⟩
theorem read_token {n : Nat} {c0 c1 c2 c3 c4 c5 c6 : Value} {y : DataW H × List MemPlace} (h : DataW.trod enc Tryd.prog W base spare held n 47 [c0, c1, c2, c3, c4, c5, c6] = some y) :
    ∃ t : To, c0 = .int .i64 t.kind ∧ c1 = .string t.text ∧ c2 = .int .i64 t.n ∧ c3 = .int .i64 t.man ∧ c4 = .int .i64 t.ex ∧ c5 = .int .i64 t.ofs ∧ c6 = .int .i64 t.en := by
  obtain ⟨xs, n', _, _, _, hlen, hf⟩ := DataW.trod_struct Tryd.underlying47 h
  have f0 : DataW.trod enc Tryd.prog W base spare held n' 3 (([c0, c1, c2, c3, c4, c5, c6].drop 0).take (Tryd.prog.cellsOf 3)) = xs[0]? := hf 0 _ rfl
  rw [cInt] at f0
  have f1 : DataW.trod enc Tryd.prog W base spare held n' 9 (([c0, c1, c2, c3, c4, c5, c6].drop 1).take (Tryd.prog.cellsOf 9)) = xs[1]? := hf 1 _ rfl
  rw [cString] at f1
  have f2 : DataW.trod enc Tryd.prog W base spare held n' 3 (([c0, c1, c2, c3, c4, c5, c6].drop 2).take (Tryd.prog.cellsOf 3)) = xs[2]? := hf 2 _ rfl
  rw [cInt] at f2
  have f3 : DataW.trod enc Tryd.prog W base spare held n' 45 (([c0, c1, c2, c3, c4, c5, c6].drop 3).take (Tryd.prog.cellsOf 45)) = xs[3]? := hf 3 _ rfl
  rw [cReal] at f3
  have f4 : DataW.trod enc Tryd.prog W base spare held n' 3 (([c0, c1, c2, c3, c4, c5, c6].drop 5).take (Tryd.prog.cellsOf 3)) = xs[4]? := hf 4 _ rfl
  rw [cInt] at f4
  have f5 : DataW.trod enc Tryd.prog W base spare held n' 3 (([c0, c1, c2, c3, c4, c5, c6].drop 6).take (Tryd.prog.cellsOf 3)) = xs[5]? := hf 5 _ rfl
  rw [cInt] at f5
  obtain ⟨k0, e0⟩ := read_int f0 (some_of rfl hlen (by decide))
  obtain ⟨k1, e1⟩ := read_string f1 (some_of rfl hlen (by decide))
  obtain ⟨k2, e2⟩ := read_int f2 (some_of rfl hlen (by decide))
  obtain ⟨k3, k4, e3, e4⟩ := read_real f3 (some_of rfl hlen (by decide))
  obtain ⟨k5, e5⟩ := read_int f4 (some_of rfl hlen (by decide))
  obtain ⟨k6, e6⟩ := read_int f5 (some_of rfl hlen (by decide))
  exact ⟨⟨k0, k1, k2, k3, k4, k5, k6⟩, e0, e1, e2, e3, e4, e5, e6⟩
instance : Inhabited To := ⟨⟨0, ByteArray.empty, 0, 0, 0, 0, 0⟩⟩
theorem read_at {n : Nat} {a : Addr} {cs : List Value} {y : DataW H × List MemPlace} (hc : W.cells? base a 7 = some cs) (h : DataW.trod enc Tryd.prog W base spare held n 47 cs = some y) : ∃ t, At7 W a t := by
  obtain ⟨_, hcl, hat⟩ := World.cells?_some hc
  match cs, hcl with
  | [c0, c1, c2, c3, c4, c5, c6], _ =>
    obtain ⟨t, rfl, rfl, rfl, rfl, rfl, rfl, rfl⟩ := read_token h
    have h0 := hat 0 (by decide)
    have hp : ∀ j, 0 < j → a.add j = ⟨a.block, a.off + j, none⟩ := fun j hj => by unfold Addr.add; rw [if_neg (by omega)]
    have h1 := hat 1 (by decide)
    have h2 := hat 2 (by decide)
    have h3 := hat 3 (by decide)
    have h4 := hat 4 (by decide)
    have h5 := hat 5 (by decide)
    have h6 := hat 6 (by decide)
    rw [hp _ (by decide)] at h1 h2 h3 h4 h5 h6
    exact ⟨t, World.block_lt_of_cell? W a h0, h0, h1, h2, h3, h4, h5, h6⟩

set_option maxRecDepth 100000 in
/-- a list of tokens that came in -/
theorem open_toks {r : Reach} {b0 : Nat} {v : Value} {d : DataW H} {p : List MemPlace} (hv : Value.okWide Tryd.prog W r b0 22 v) (h : DataW.Trod enc Tryd.prog W base spare held 22 v d p) :
    ∃ (o : Option Addr) (cap : Nat) (l : List To), v = .slice o l.length cap ∧ Row W o l ∧ l.length ≤ maxLen := by
  obtain ⟨a, len, cap, rfl⟩ := okWide_slice Tryd.underlying22 hv
  obtain ⟨fuel, hf⟩ := h
  rcases Go.Deep.open_slice Tryd.underlying22 hf with ⟨hcs, _⟩ | ⟨x, ln, cp, m, n, D, Pl, hcs, hb, hl, hm, hmm, _, hi⟩
  · simp [Value.cells] at hcs
    obtain ⟨rfl, rfl, rfl⟩ := hcs
    exact ⟨none, 0, [], rfl, fun i h => absurd h (Nat.not_lt_zero _), Nat.zero_le _⟩
  · simp [Value.cells] at hcs
    obtain ⟨rfl, rfl, rfl⟩ := hcs
    have hlm : len ≤ m := by rw [hmm]; split <;> omega
    obtain ⟨T, hT⟩ := Go.Deep.choose_lt (α := To) (n := len) (p := fun i t => At7 W (x.add (i * 7)) t) (fun i hi' => by
      obtain ⟨cs', hc, ht⟩ := hi i (by omega)
      rw [cToken] at hc
      exact read_at hc ht)
    refine ⟨some x, cap, (List.range len).map T, by simp, fun i h => ⟨x, rfl, ?_⟩, by simp; omega⟩
    have hi' : i < len := by simpa using h
    have := hT i hi'
    simpa using this
end Go.Proofs.YtnocgfddpdjjeaaDoor
