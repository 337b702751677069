/-
  PACKAGE lex: Strip.
-/
import Derived.Test.YtnmifeiokhpcfaaDoorLex13
import Derived.Test.YtnmifeiokhpcfaaDoorLex14
import Derived.Test.YtnmifeiokhpcfaaDoorLex15
import Derived.Test.YtnmifeiokhpcfaaDoorShelf

namespace Go.Proofs.YtnmifeiokhpcfaaDoor
open Go.RowKit Go.Shelf
set_option linter.unusedVariables false
attribute [local go_sem] Oper.semAt_some

theorem comments_any (s : ByteArray) (ao : Option Addr) (n c : Nat) (w : World) :
    Calls Tryd.prog 14 #[.string s, .slice ao n c] w fun e w' => e = .returned (.func (.func 28) #[] #[.pointer (some ⟨w.heap.size + 1, 0, none⟩), .pointer (some ⟨w.heap.size, 0, none⟩)]) ∧
      w' = (w.alloc (.cells #[.string s] 9)).alloc (.cells #[.slice ao n c] 23) := by
  have hmf : ∀ (fn : Fn) (first cap : Array Value) (w : World), (Instr.makeFunc fn first cap).run Tryd.prog w = .ok (.func fn first cap) w := fun _ _ _ _ => rfl
  go_enter Tryd.func14, Tryd.ntmps14
  go_wp2_with fail
  go_ret
  exact ⟨rfl, rfl⟩

/-- what has been written, and up to where, when these comments are over -/
def stF (s : ByteArray) (p : Nat × List UInt8) (x : Nat × Nat) : Nat × List UInt8 := (x.2, p.2 ++ (s.extract p.1 x.1).data.toList ++ [32])
def stL (s : ByteArray) (pre : List (Nat × Nat)) : Nat × List UInt8 := pre.foldl (stF s) (0, [])
theorem stL_snoc (s : ByteArray) (pre : List (Nat × Nat)) (x : Nat × Nat) : stL s (pre ++ [x]) = stF s (stL s pre) x := by simp [stL, List.foldl_append]
/-- the comments lie one behind the other -/
def okC (s : ByteArray) : Nat → List (Nat × Nat) → Prop
  | f, [] => f ≤ s.size
  | f, x :: r => f ≤ x.1 ∧ x.1 ≤ x.2 ∧ x.2 ≤ s.size ∧ okC s x.2 r
theorem okC_at {s : ByteArray} (pre : List (Nat × Nat)) (x : Nat × Nat) (post : List (Nat × Nat)) (p : Nat × List UInt8) (h : okC s p.1 (pre ++ x :: post)) :
    (pre.foldl (stF s) p).1 ≤ x.1 ∧ x.1 ≤ x.2 ∧ x.2 ≤ s.size ∧ (pre.foldl (stF s) p).2.length ≤ p.2.length + ((pre.foldl (stF s) p).1 - p.1) + pre.length ∧ p.1 ≤ (pre.foldl (stF s) p).1 := by
  induction pre generalizing p with
  | nil => exact ⟨h.1, h.2.1, h.2.2.1, by simp, Nat.le_refl _⟩
  | cons y pre ih =>
    obtain ⟨h1, h2, h3, h4⟩ := h
    have i := ih (stF s p y) h4
    simp only [List.foldl_cons]
    have e : (stF s p y).2.length = p.2.length + (y.1 - p.1) + 1 := by
      simp [stF, ByteArray.size_extract]
      omega
    have e2 : (stF s p y).1 = y.2 := rfl
    refine ⟨i.1, i.2.1, i.2.2.1, ?_, by omega⟩
    rw [e, e2] at i
    simp only [List.length_cons]
    omega
theorem okC_end {s : ByteArray} (xs : List (Nat × Nat)) (p : Nat × List UInt8) (h : okC s p.1 xs) : (xs.foldl (stF s) p).1 ≤ s.size ∧ (xs.foldl (stF s) p).2.length ≤ p.2.length + ((xs.foldl (stF s) p).1 - p.1) + xs.length ∧ p.1 ≤ (xs.foldl (stF s) p).1 := by
  induction xs generalizing p with
  | nil => exact ⟨h, by simp, Nat.le_refl _⟩
  | cons y r ih =>
    obtain ⟨h1, h2, h3, h4⟩ := h
    have i := ih (stF s p y) h4
    simp only [List.foldl_cons]
    have e : (stF s p y).2.length = p.2.length + (y.1 - p.1) + 1 := by
      simp [stF, ByteArray.size_extract]
      omega
    have e2 : (stF s p y).1 = y.2 := rfl
    rw [e, e2] at i
    simp only [List.length_cons]
    refine ⟨i.1, by omega, by omega⟩
def stripV (s : ByteArray) (xs : List (Nat × Nat)) : List UInt8 := (stL s xs).2 ++ (s.extract (stL s xs).1 s.size).data.toList

/-- the builder stays one while the iterator does its own -/
theorem isb_turns {N b : Nat} {bs : List Value} {A B : World} {M : Nat} (h : Lib.IsBuilder 58 5 N b bs A) (ht : TurnsAll 47 M A B) : Lib.IsBuilder 58 5 N b bs B := by
  obtain ⟨row, hg, hr⟩ := ht
  have one : ∀ p, Lib.BuilderAt 58 5 N b p bs A → Lib.BuilderAt 58 5 N b p bs B := by
    rintro p ⟨hB, v, hb, hown, hne⟩
    refine ⟨hB, v, (hg.block b (cells_lt hb) (fun e => ?_)).trans hb, hown.kept hg ?_, hne⟩
    · obtain ⟨_, o, ho, h1⟩ := hr b e.symm
      rw [hb] at ho
      cases ho
      rcases h1 with h1 | ⟨_, _, h1⟩ <;> cases h1
    · cases hv : v.ownBlock with
      | none => exact .inl rfl
      | some g =>
        refine .inr (fun e => ?_)
        obtain ⟨_, cur, fr, hc⟩ := own_u8 hown g hv
        obtain ⟨_, o, ho, h1⟩ := hr g e.symm
        rw [hc] at ho
        cases ho
        rcases h1 with h1 | ⟨_, _, h1⟩ <;> cases h1
  rcases h with h | h
  · exact .inl (one _ h)
  · exact .inr (one _ h)
/-- a block of cells of another type stays -/
theorem cells_turns {T : TypeId} {A B : World} {M k : Nat} {cur : Array Value} {fr : Nat × Nat} (hT : T ≠ 47) (h : A.heap[k]? = some (.cells cur T fr)) (ht : TurnsAll 47 M A B) : B.heap[k]? = some (.cells cur T fr) := by
  obtain ⟨row, hg, hr⟩ := ht
  refine (hg.block k (cells_lt h) (fun e => ?_)).trans h
  obtain ⟨_, o, ho, h1⟩ := hr k e.symm
  rw [h] at ho
  cases ho
  rcases h1 with h1 | ⟨_, _, h1⟩
  · cases h1
  · cases h1; exact hT rfl
theorem below_turns {A B w : World} {n M : Nat} (h : Below n w A) (hn : n ≤ A.heap.size) (hM : n ≤ M) (ht : TurnsAll 47 M A B) : Below n w B := by
  obtain ⟨row, hg, hr⟩ := ht
  exact h.grown hg hn (fun k e => by have := (hr k e).1; omega)

theorem isb_type {N b : Nat} {bs : List Value} {A : World} (h : Lib.IsBuilder 58 5 N b bs A) : ∃ cur, A.heap[b]? = some (Obj.cells cur 58 (0, 0)) := by
  rcases h with ⟨_, v, hb, _⟩ | ⟨_, v, hb, _⟩
  · exact ⟨_, hb⟩
  · exact ⟨_, hb⟩
theorem keep_bk {N : Nat} {W W1 : World} (hN : ∃ cur, W.heap[N]? = some (Obj.cells cur 58 (0, 0))) (h : BK N N W W1) : KeepT W W1 := by
  obtain ⟨c0, hN⟩ := hN
  refine ⟨⟨h.below.size, fun k cur T fr hT ho => ?_⟩, fun k cur fr ho => ?_⟩
  · refine h.same k _ (fun e => ?_) (fun c f e => ?_) ho
    · rw [e, hN] at ho; cases ho; rcases hT with h | h | h <;> cases h
    · cases e; rcases hT with h | h | h <;> cases h
  · refine h.same k _ (fun e => ?_) (fun c f e => ?_) ho
    · rw [e, hN] at ho; cases ho
    · cases e
theorem keepf_bk {N M : Nat} {W W1 : World} (hM : N < M) (h : BK N N W W1) : KeepsFrom M W W1 :=
  ⟨h.below.size, fun k o hk ho hc => h.same k o (by omega) (fun c f e => by rw [e] at hc; cases hc) ho⟩
/-- a store into a block of an int -/
theorem set_same {W : World} {b k : Nat} {u : Value} {cur c0 : Array Value} {T : TypeId} {fr f0 : Nat × Nat} (hb : W.heap[b]? = some (.cells c0 3 f0)) (hT : T ≠ 3) (ho : W.heap[k]? = some (.cells cur T fr)) : (W.setCell ⟨b, 0, none⟩ u).heap[k]? = some (.cells cur T fr) := by
  rw [Below.heap_setCell _ _ _ _ (fun e => by rw [e] at ho; rw [show (⟨b, 0, none⟩ : Addr).block = b from rfl, hb] at ho; cases ho; exact hT rfl)]
  exact ho
theorem isb_set {N b k : Nat} {bs : List Value} {A : World} {u : Value} {c0 : Array Value} {f0 : Nat × Nat} (hb : A.heap[k]? = some (.cells c0 3 f0)) (h : Lib.IsBuilder 58 5 N b bs A) : Lib.IsBuilder 58 5 N b bs (A.setCell ⟨k, 0, none⟩ u) := by
  have one : ∀ p, Lib.BuilderAt 58 5 N b p bs A → Lib.BuilderAt 58 5 N b p bs (A.setCell ⟨k, 0, none⟩ u) := by
    rintro p ⟨hB, v, hbb, hown, hne⟩
    refine ⟨hB, v, set_same hb (by decide) hbb, ownsRow_setCell_other hown (fun e => ?_) _, hne⟩
    obtain ⟨_, cur, fr, hc⟩ := own_u8 hown _ e
    rw [show (⟨k, 0, none⟩ : Addr).block = k from rfl, hb] at hc
    cases hc
  rcases h with h | h
  · exact .inl (one _ h)
  · exact .inr (one _ h)
theorem keep_set {W : World} {b : Nat} {u : Value} {c0 : Array Value} {f0 : Nat × Nat} (hb : W.heap[b]? = some (.cells c0 3 f0)) : KeepT W (W.setCell ⟨b, 0, none⟩ u) :=
  ⟨⟨by simp [World.setCell], fun k cur T fr hT ho => set_same hb (by rcases hT with rfl | rfl | rfl <;> decide) ho⟩, fun k cur fr ho => set_same hb (by decide) ho⟩
theorem one_set {W : World} {b : Nat} {u v : Value} {T : TypeId} (hb : W.heap[b]? = some (.cells #[v] T (0, 0))) : (W.setCell ⟨b, 0, none⟩ u).heap[b]? = some (.cells #[u] T (0, 0)) := one_setCell hb

/-- between two rounds -/
structure StrI (w : World) (N M : Nat) (s : ByteArray) (p : Nat × List UInt8) (W : World) : Prop where
  isb : Lib.IsBuilder 58 5 N N (Lib.byteCells p.2) W
  frm : W.heap[N + 1]? = some (.cells #[.int .i64 p.1] 3 (0, 0))
  txt : W.heap[w.heap.size]? = some (.cells #[.string s] 9 (0, 0))
  bel : Below w.heap.size w W
  siz : M ≤ W.heap.size
theorem StrI.turns {w : World} {N M M' : Nat} {s : ByteArray} {p : Nat × List UInt8} {A B : World} (h : StrI w N M s p A) (hM : w.heap.size ≤ M') (ht : TurnsAll 47 M' A B) : StrI w N M s p B :=
  ⟨isb_turns h.isb ht, cells_turns (by decide) h.frm ht, cells_turns (by decide) h.txt ht, below_turns h.bel (Nat.le_of_lt (cells_lt h.txt)) hM ht, by obtain ⟨_, hg, _⟩ := ht; exact Nat.le_trans h.siz hg.size⟩

set_option maxRecDepth 100000 in
set_option maxHeartbeats 4000000 in
theorem strip_any {w : World} {s : ByteArray} (l : List Tk) (xs : List (Nat × Nat)) (hs : s.size ≤ 1048576) (hl : l.length ≤ 131072) (hxl : xs.length ≤ 10000000)
    (HLEX : ∀ w', Below w.heap.size w w' → Calls Tryd.prog 6 #[.string s] w' (LexP w' (.ok l))) (hok : okL s l) (hcm : comsL s l = some xs) (hoc : okC s 0 xs) :
    Calls Tryd.prog 10 #[.string s] w fun e w' => e = .returned (.tuple #[.string ⟨(stripV s xs).toArray⟩, .int .i64 0, .int .i64 0]) ∧ Below w.heap.size w w' := by
  have HL := Lib.hid HLEX
  have HOK := Lib.hid hok
  have HCM := Lib.hid hcm
  have HOC := Lib.hid hoc
  clear HLEX hok hcm hoc
  refine (callsIn_wide (n := 5)).1 ?_
  refine callsIn_of_wp_marks Tryd.func10 rfl trivial ?_ rfl
  simp only [Tryd.ntmps10, List.size_toArray, List.length_cons, List.length_nil, Nat.reduceAdd, Nat.reduceSub, Array.replicate_succ, Array.replicate_zero, List.push_toArray, List.append_toArray, List.nil_append, List.cons_append]
  gi_wp2
  have b1 : Below w.heap.size w (w.alloc (.cells #[.string s] 9)) := (Below.refl _ _).alloc (Nat.le_refl _) _
  refine ⟨trivial, callsIn_wide.2 ((HL.out _ b1).mono ?_)⟩
  rintro e w5 ⟨hb5, v, rfl, ho⟩
  have q1 : w5.heap[w.heap.size]? = some (.cells #[.string s] 9 (0, 0)) := (hb5.block _ (by simp)).trans (heap_alloc_new w _)
  have B5 := Lib.hid (b1.trans (hb5.mono (by simp)))
  have Q1 := Lib.hid q1
  have TK := Lib.hid (TokAt.of ho)
  have z5 : w.heap.size < w5.heap.size := cells_lt q1
  have p1 : w5.cell? ⟨w.heap.size, 0, none⟩ = some (.string s) := by simp [World.cell?, q1]
  have hv : ∃ ao n c, v = .slice ao n c := by
    rcases TK.out with ⟨h, _⟩ | ⟨g, c, cur, h, _⟩
    · exact ⟨_, _, _, h⟩
    · exact ⟨_, _, _, h⟩
  obtain ⟨ao, nn, cc, rfl⟩ := hv
  clear hb5 ho q1 b1
  gi_wp2
  refine ⟨trivial, callsIn_wide.2 ((comments_any s ao nn cc _).mono ?_)⟩
  rintro e w6 ⟨rfl, rfl⟩
  gi_wp2
  have z4 : ((((w5.alloc (.cells #[.pointer none, .slice none 0 0] 58)).alloc (.cells #[.int .i64 0] 3)).alloc (.cells #[.string s] 9)).alloc (.cells #[.slice ao nn cc] 23)).heap.size = w5.heap.size + 1 + 1 + 1 + 1 := by simp
  have k4 : Below w5.heap.size w5 ((((w5.alloc (.cells #[.pointer none, .slice none 0 0] 58)).alloc (.cells #[.int .i64 0] 3)).alloc (.cells #[.string s] 9)).alloc (.cells #[.slice ao nn cc] 23)) := by
    repeat (first | exact Below.refl _ _ | refine Below.alloc ?_ (by simp <;> omega) _)
  have rt : ((((w5.alloc (.cells #[.pointer none, .slice none 0 0] 58)).alloc (.cells #[.int .i64 0] 3)).alloc (.cells #[.string s] 9)).alloc (.cells #[.slice ao nn cc] 23)).heap[w5.heap.size + 1 + 1 + 1]? = some (.cells #[.slice ao nn cc] 23 (0, 0)) := by
    have := heap_alloc_new (((w5.alloc (.cells #[.pointer none, .slice none 0 0] 58)).alloc (.cells #[.int .i64 0] 3)).alloc (.cells #[.string s] 9)) (.cells #[.slice ao nn cc] 23)
    simpa only [World.size_alloc] using this
  have rs : ((((w5.alloc (.cells #[.pointer none, .slice none 0 0] 58)).alloc (.cells #[.int .i64 0] 3)).alloc (.cells #[.string s] 9)).alloc (.cells #[.slice ao nn cc] 23)).heap[w5.heap.size + 1 + 1]? = some (.cells #[.string s] 9 (0, 0)) := by
    have := heap_alloc_new ((w5.alloc (.cells #[.pointer none, .slice none 0 0] 58)).alloc (.cells #[.int .i64 0] 3)) (.cells #[.string s] 9)
    rw [World.size_alloc, World.size_alloc] at this
    exact (Below.heap_alloc _ _ _ (by simp)).trans this
  have rf : ((((w5.alloc (.cells #[.pointer none, .slice none 0 0] 58)).alloc (.cells #[.int .i64 0] 3)).alloc (.cells #[.string s] 9)).alloc (.cells #[.slice ao nn cc] 23)).heap[w5.heap.size + 1]? = some (.cells #[.int .i64 0] 3 (0, 0)) := by
    have := heap_alloc_new (w5.alloc (.cells #[.pointer none, .slice none 0 0] 58)) (.cells #[.int .i64 0] 3)
    rw [World.size_alloc] at this
    exact (Below.heap_alloc _ _ _ (by simp)).trans ((Below.heap_alloc _ _ _ (by simp)).trans this)
  have rb : ((((w5.alloc (.cells #[.pointer none, .slice none 0 0] 58)).alloc (.cells #[.int .i64 0] 3)).alloc (.cells #[.string s] 9)).alloc (.cells #[.slice ao nn cc] 23)).heap[w5.heap.size]? = some (.cells #[.pointer none, .slice none 0 0] 58 (0, 0)) :=
    (Below.heap_alloc _ _ _ (by simp <;> omega)).trans ((Below.heap_alloc _ _ _ (by simp <;> omega)).trans ((Below.heap_alloc _ _ _ (by simp)).trans (heap_alloc_new w5 _)))
  have h0 : StrI w w5.heap.size (w5.heap.size + 1 + 1 + 1 + 1) s (stL s []) ((((w5.alloc (.cells #[.pointer none, .slice none 0 0] 58)).alloc (.cells #[.int .i64 0] 3)).alloc (.cells #[.string s] 9)).alloc (.cells #[.slice ao nn cc] 23)) :=
    ⟨.inl ⟨Nat.le_refl _, _, rb, World.ownsRow_nil _ _ _ _, by simp [Value.ownBlock]⟩, rf, (k4.block _ z5).trans Q1.out, B5.out.trans (k4.mono (Nat.le_of_lt z5)), by rw [z4]; exact Nat.le_refl _⟩
  have TK4 := Lib.hid (TK.out.kept (Kq.of_below k4))
  clear rb rf k4
  generalize ((((w5.alloc (.cells #[.pointer none, .slice none 0 0] 58)).alloc (.cells #[.int .i64 0] 3)).alloc (.cells #[.string s] 9)).alloc (.cells #[.slice ao nn cc] 23)) = W4 at *
  obtain ⟨N, hN⟩ : ∃ N, w5.heap.size = N := ⟨_, rfl⟩
  rw [hN] at rt rs h0 z4 z5 ⊢
  have HC := Lib.hid (comments1_C 4 (by omega) W4 (N + 1 + 1 + 1) (N + 1 + 1) s (.slice ao nn cc) l xs (by omega) hl rt rs TK4.out HOK.out HCM.out)
  refine wpIn_rangeFunc_C 47 rfl (by omega) (gf := 28) (lb := #[.pointer (some ⟨N + 1 + 1 + 1, 0, none⟩), .pointer (some ⟨N + 1 + 1, 0, none⟩)]) rfl trivial (enters_of Tryd.func28 (by kernel_rfl) rfl)
    HC.out KeepT.t (fun W l o o' _ h hc => ⟨⟨by simp, fun k cur T fr _ ho => by
        rw [World.putObj_heap_other (fun e => by rw [e] at ho; rw [h] at ho; cases ho; cases hc)]; exact ho⟩, fun k cur fr ho => by
        rw [World.putObj_heap_other (fun e => by rw [e] at ho; rw [h] at ho; cases ho; cases hc)]; exact ho⟩) (Below.refl _ _) (fun _ => rfl)
    (fun pre W => StrI w N (N + 1 + 1 + 1 + 1) s (stL s pre) W) (fun pre A B h ht => h.turns (by omega) ht) h0
    (fun x c W => ∃ Bx, W.heap[Bx]? = some (.cells #[.int .i64 x.1, .int .i64 x.2] 33 (0, 0)) ∧ N + 1 + 1 + 1 + 1 ≤ Bx ∧ c = { tmps := #[.string s, .pointer (some ⟨w.heap.size, 0, none⟩), .string ⟨#[]⟩, .int .i64 0, .int .i64 0, .slice ao nn cc, .int .i64 0, .int .i64 0, .pointer (some ⟨N, 0, none⟩), .pointer (some ⟨N + 1, 0, none⟩), .pointer (some ⟨Bx, 0, none⟩), .tuple #[.slice ao nn cc, .int .i64 0, .int .i64 0], .string s, .tuple #[.slice ao nn cc, .int .i64 0, .int .i64 0], .slice ao nn cc, .int .i64 0, .int .i64 0, .int .i64 0, .bool false, undef, undef, .string s, .slice ao nn cc, .func (.func 28) #[] #[.pointer (some ⟨N + 1 + 1 + 1, 0, none⟩), .pointer (some ⟨N + 1 + 1, 0, none⟩)], .agg #[.int .i64 x.1, .int .i64 x.2], undef, undef, undef, undef, undef, undef, undef, undef, undef, undef, undef, undef, undef, undef], defers := [] })
    (fun x c A B ⟨Bx, h1, h2, h3⟩ ht => ⟨Bx, cells_turns (by decide) h1 ht, h2, h3⟩) ?assign ?body ?done
  case assign =>
    intro lr pre x post W hx hi
    have HI := Lib.hid hi
    clear hi
    dsimp only
    gi_wp2
    exact ⟨(KeepsOthers.alloc _ _).from _, ⟨(Kq.refl _).alloc _, fun k cur fr ho => (Below.heap_alloc _ _ _ (cells_lt ho)).trans ho⟩, HI.out.turns (by omega : w.heap.size ≤ W4.heap.size) ⟨none, World.grownBy_alloc _ _ none, fun r e => by cases e⟩, W.heap.size, heap_alloc_new _ _, HI.out.siz, rfl⟩
  case body =>
    rintro lr pre x post c W hx hi ⟨Bx, hbx, hBx, rfl⟩
    dsimp only
    have hc0 : okC s (0, ([] : List UInt8)).1 (pre ++ x :: post) := by rw [← hx]; exact HOC.out
    obtain ⟨a1, a2, a3, a4, _⟩ := okC_at pre x post (0, []) hc0
    have hpl : pre.length ≤ xs.length := by rw [hx]; simp
    have SN := Lib.hid (stL_snoc s pre x)
    rw [show pre.foldl (stF s) (0, []) = stL s pre from rfl] at a1 a4
    obtain ⟨p, hp⟩ : ∃ p, p = stL s pre := ⟨_, rfl⟩
    rw [← hp] at a1 a4 hi SN
    have HI := Lib.hid hi
    have t0 : W.cell? ⟨w.heap.size, 0, none⟩ = some (.string s) := cell_of_one hi.txt
    have t1 : W.cell? ⟨N + 1, 0, none⟩ = some (.int .i64 p.1) := cell_of_one hi.frm
    have t2 : W.cell? ⟨Bx, 0, none⟩ = some (.int .i64 x.1) := by simp [World.cell?, hbx]
    have hz1 : (0 : Int) ≤ (p.1 : Int) := by omega
    have hz2 : (p.1 : Int) ≤ (x.1 : Int) := by omega
    have hz3 : (x.1 : Int) ≤ (s.size : Int) := by omega
    have hNW : N ≤ W.heap.size := by have := hi.siz; omega
    have HBX := Lib.hid hbx
    have HX := Lib.hid hx
    simp only [List.length_nil, Nat.zero_add, Nat.sub_zero] at a4
    clear hi hbx hx hp hc0
    gi_wp2
    have hxz : (s.extract p.1 x.1).size = x.1 - p.1 := by rw [ByteArray.size_extract]; omega
    refine ⟨trivial, CallsIn.inRound lr (callsIn_wide.2 ((writeString_any (s.extract p.1 x.1) HI.out.isb (by rw [hxz]; omega) hNW).mono ?_))⟩
    rintro e W1 ⟨rfl, hi1, k1⟩
    have hN0 := isb_type HI.out.isb
    have KK1 := Lib.hid (keep_bk hN0 k1)
    have KF1 := Lib.hid (keepf_bk (M := W4.heap.size) (by omega) k1)
    have hN1 := isb_type hi1
    have bx1 := k1.same Bx _ (by omega) (fun c f e => by cases e) HBX.out
    have fr1 := k1.same (N + 1) _ (by omega) (fun c f e => by cases e) HI.out.frm
    have tx1 := k1.same w.heap.size _ (by omega) (fun c f e => by cases e) HI.out.txt
    have be1 := HI.out.bel.trans (k1.below.mono (Nat.le_of_lt z5))
    have I1 := Lib.hid hi1
    have sz1 := k1.below.size
    have BX1 := Lib.hid bx1
    have FR1 := Lib.hid fr1
    have TX1 := Lib.hid tx1
    have BE1 := Lib.hid be1
    clear hi1 k1 bx1 fr1 tx1 be1 hN0
    gi_wp2
    have hWB := writeByte_any 32 I1.out (by rw [List.length_append, Array.length_toList, show (s.extract p.1 x.1).data.size = (s.extract p.1 x.1).size from rfl, hxz]; omega) (Nat.le_trans hNW sz1)
    refine ⟨trivial, CallsIn.inRound lr (callsIn_wide.2 (hWB.mono ?_))⟩
    rintro e W2 ⟨rfl, hi2, k2⟩
    have KK2 := Lib.hid (KK1.out.t (keep_bk hN1 k2))
    have KF2 := Lib.hid (KF1.out.trans (keepf_bk (M := W4.heap.size) (by omega) k2))
    have bx2 := k2.same Bx _ (by omega) (fun c f e => by cases e) BX1.out
    have fr2 := k2.same (N + 1) _ (by omega) (fun c f e => by cases e) FR1.out
    have tx2 := k2.same w.heap.size _ (by omega) (fun c f e => by cases e) TX1.out
    have be2 := BE1.out.trans (k2.below.mono (Nat.le_of_lt z5))
    have sz2 := k2.below.size
    have t3 : W2.cell? ⟨Bx, 1, none⟩ = some (.int .i64 x.2) := by simp [World.cell?, bx2]
    have t4 : W2.cell? ⟨N + 1, 0, none⟩ = some (.int .i64 p.1) := cell_of_one fr2
    have f4 : W2.frozen? ⟨N + 1, 0, none⟩ = false := free_of_one fr2
    have KF3 := Lib.hid (KF2.out.trans ((KeepsOthers.setCell W2 ⟨N + 1, 0, none⟩ (.int .i64 x.2)).from W4.heap.size))
    have KK3 := Lib.hid (KK2.out.t (keep_set (u := .int .i64 x.2) fr2))
    have ST3 := Lib.hid (show StrI w N (N + 1 + 1 + 1 + 1) s (stL s (pre ++ [x])) (W2.setCell ⟨N + 1, 0, none⟩ (.int .i64 x.2)) from by
      rw [SN.out]
      refine ⟨?_, one_set fr2, set_same fr2 (by decide) tx2, be2.setCell (p := ⟨N + 1, 0, none⟩) (by simp; omega) _, by simp [World.setCell]; have := HI.out.siz; omega⟩
      have := isb_set (u := .int .i64 x.2) fr2 hi2
      exact this)
    clear hi2 k2 bx2 fr2 tx2 be2 hN1
    gi_wp2
    exact ⟨KF3.out, KK3.out, ST3.out⟩
  case done =>
    rintro D W hD hi hd
    obtain ⟨o1, o2, _⟩ := okC_end xs (0, []) HOC.out
    rw [show xs.foldl (stF s) (0, []) = stL s xs from rfl] at o1 o2
    have HV := Lib.hid (show stripV s xs = (stL s xs).2 ++ (s.extract (stL s xs).1 s.size).data.toList from rfl)
    generalize stL s xs = p at hi o1 o2 HV
    have HI := Lib.hid hi
    have t0 : W.cell? ⟨w.heap.size, 0, none⟩ = some (.string s) := cell_of_one hi.txt
    have t1 : W.cell? ⟨N + 1, 0, none⟩ = some (.int .i64 p.1) := cell_of_one hi.frm
    have hz1 : (0 : Int) ≤ (p.1 : Int) := by omega
    have hz2 : (p.1 : Int) ≤ (s.size : Int) := by omega
    have hNW : N ≤ W.heap.size := by have := hi.siz; omega
    have HD := Lib.hid hd
    simp only [List.length_nil, Nat.zero_add, Nat.sub_zero] at o2
    clear hi hd
    dsimp only
    gi_wp2
    have hxz : (s.extract p.1 s.size).size = s.size - p.1 := by rw [ByteArray.size_extract]; omega
    refine ⟨trivial, callsIn_wide.2 ((writeString_any (s.extract p.1 s.size) HI.out.isb (by rw [hxz]; omega) hNW).mono ?_)⟩
    rintro e W1 ⟨rfl, hi1, k1⟩
    have hd1 := k1.same D _ (by omega) (fun c f e => by cases e) HD.out
    have be1 := HI.out.bel.trans (k1.below.mono (Nat.le_of_lt z5))
    have I1 := Lib.hid hi1
    have HD1 := Lib.hid hd1
    have BE1 := Lib.hid be1
    have sz1 := k1.below.size
    clear hi1 hd1 be1 k1
    gi_wp2
    refine ⟨trivial, callsIn_wide.2 ((Tryd.Builder_String_any_k N N (p.2 ++ (s.extract p.1 s.size).data.toList) W1 (Lib.IsBuilderF.of I1.out) (Nat.le_trans hNW sz1)).mono ?_)⟩
    rintro e W2 ⟨rfl, _, b2, ok2⟩
    have hd2 := ok2 D _ HD1.out (by simp; omega) (fun c f e => by cases e)
    have be2 := BE1.out.trans (b2.mono (Nat.le_of_lt z5))
    clear ok2 b2
    rw [← HV.out]
    have BE2 := Lib.hid (be2.trans (belowK_b (w := w) (Nat.le_refl _) W2 D _ (.deferred none) (by omega) hd2 rfl rfl))
    gi_wp2
    refine ⟨by simp, .inl ⟨_, _, rfl, run_takeDeferred hd2, ?_⟩⟩
    refine ⟨_, ?_, rfl, BE2.out⟩
    simp [results, Tryd.results10]

end Go.Proofs.YtnmifeiokhpcfaaDoor
