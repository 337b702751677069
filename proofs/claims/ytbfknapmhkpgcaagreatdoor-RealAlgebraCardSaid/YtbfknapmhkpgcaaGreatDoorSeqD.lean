/-
  A RANGE OVER A FUNCTION WHOSE ITERATOR ITSELF RANGES OVER AN ITERATOR, and that keeps cells of its own (of one type T) which it writes between the rounds; the loop's body never leaves. (XSeqC's law, for a caller's invariant that abides the turn of loops' records as well.)
-/
import Derived.Test.YtbfknapmhkpgcaaGreatDoorProg
import Derived.RangeFuncNested
import Derived.RangeFuncBound
import Derived.RangeFuncCalls
import Derived.RangeFuncLeaves
import Derived.Shelf.Abstract
import Derived.Shelf.RegionOpen
import Derived.WalkKit
import Derived.OwnWalkIn
import Derived.TacticsInMore
import Derived.LoopNIn
import Derived.LoopIn
import Derived.WalkLawsBesides
import Derived.Lib.Hide

namespace Go.Proofs.YtbfknapmhkpgcaaGreatDoor
open Go.RowKit Go.Shelf

/-- from A to B blocks have been made, or one block from N on has been turned: cells of type T, or no cells -/
def TurnsAllD (T : TypeId) (N : Nat) (A B : World) : Prop :=
  ∃ row, A.grownBy B row ∧ ∀ r, row = some r → N ≤ r ∧ ∃ o, A.heap[r]? = some o ∧ (o.isCells = false ∨ ∃ cur fr, o = .cells cur T fr)

/-- the contract of such an iterator -/
def SeqD {α : Type} (Bo : Nat) (T : TypeId) (F : Fence) (n : Nat) (P : Program) (g : Nat) (lb : Array Value) (encs : α → Array Value) (Kp : World → World → Prop) (xs : List α) (w : World) : Prop :=
  ∀ (l : Nat) (J : List α → World → Prop) (W : World), Below w.heap.size w W → Bo ≤ W.heap.size → (∀ pre A B, J pre A → TurnsAllD T W.heap.size A B → J pre B) →
    (∀ pre x post W1, xs = pre ++ x :: post → J pre W1 → YieldAt F (n - 1) P l (encs x) W1 fun e W' => e = .returned (.bool true) ∧ J (pre ++ [x]) W' ∧ Kp W1 W') →
    J [] W →
    CallsIn F n P g (#[.func (.yield l) #[] #[]] ++ lb) W fun e W' => (∃ v, e = .returned v) ∧ J xs W'

/-- a record's turn is no turn of cells -/
theorem keeps_recD {T : TypeId} {N k : Nat} {A B : World} {o : Obj} (h : TurnsAllD T N A B) (hk : A.heap[k]? = some o) (hkN : k < N) : B.heap[k]? = some o := by
  obtain ⟨row, hg, hr⟩ := h
  have hlt := (Array.getElem?_eq_some_iff.1 hk).1
  rw [hg.block k hlt, hk]
  intro e
  have := (hr k e.symm).1
  omega

/-- how a round's body ends: it goes on, whatever is no cells and lies from B on as it lay -/
def bodyD {α : Type} (B : Nat) (Kp : World → World → Prop) (I : List α → World → Prop) (xs : List α) (W : World) : Exit → Act → World → Prop
  | .normal, _, W' => KeepsFrom B W W' ∧ Kp W W' ∧ I xs W'
  | _, _, _ => False

theorem wpIn_rangeFunc_D {P : Program} {F : Fence} {n : Nat} {α : Type} {g : Operand} {ps : Array Tmp} {assign body : Code} {Q : Exit → Act → World → Prop} {a : Act} {w : World} (T : TypeId)
    (hro : F.round = none) (h1 : 1 ≤ n) {gf : Nat} {lb : Array Value} (hg : a.eval g = .func (.func gf) #[] lb) (hFg : F.fn gf) (eg : ∀ args w, (callFunc gf args).run P w = .ok (.enter gf args) w)
    {encs : α → Array Value} {Kp : World → World → Prop} {xs : List α} {w0 : World} (hseq : SeqD (w.heap.size + 2) T F (n - 1) P gf lb encs Kp xs w0)
    (hKt : ∀ {A B C : World}, Kp A B → Kp B C → Kp A C) (hKb : ∀ (W : World) (o o' : Obj), W.heap[w.heap.size + 1]? = some o → o.isCells = false → Kp W (W.putObj (w.heap.size + 1) o')) (hb0 : Below w0.heap.size w0 w) (hps : ∀ x, (encs x).size = ps.size)
    (I : List α → World → Prop) (hI : ∀ pre A B, I pre A → TurnsAllD T w.heap.size A B → I pre B) (h0 : I [] w) (Ax : α → Act → World → Prop) (hAx : ∀ x c A B, Ax x c A → TurnsAllD T w.heap.size A B → Ax x c B)
    (hassign : ∀ (l : Nat) (pre : List α) (x : α) (post : List α) (W : World), xs = pre ++ x :: post → I pre W →
      assign.wpIn (F.inRound l) (n - 1 - 1) P (Exit.then (fun c W' => KeepsFrom w.heap.size W W' ∧ Kp W W' ∧ I pre W' ∧ Ax x c W') (fun _ _ _ => False)) { tmps := (ps.zip (encs x)).foldl (fun t (p, v) => t.setIfInBounds p v) a.tmps, defers := [] } W)
    (hbody : ∀ (l : Nat) (pre : List α) (x : α) (post : List α) (c : Act) (W : World), xs = pre ++ x :: post → I pre W → Ax x c W → body.wpIn (F.inRound l) (n - 1 - 1) P (bodyD w.heap.size Kp I (pre ++ [x]) W) c W)
    (hdone : ∀ (D : Nat) (W : World), w.heap.size ≤ D → I xs W → W.heap[D]? = some (.deferred (some [])) → Q .normal { a with defers := { target := .collected D, args := #[] } :: a.defers } W) :
    (Code.rangeFunc g ps assign body).wpIn F n P Q a w := by
  refine wpIn_rangeFunc fun fn hfn => ?_
  rw [hro]
  obtain ⟨rc, hrc⟩ : ∃ rc : LoopState → Loop, rc = fun st => { state := st, pending := none, fn, tmps := a.tmps, params := ps, assign, body, defers := w.heap.size } := ⟨_, rfl⟩
  obtain ⟨W1, hW1⟩ : ∃ W1, (w.alloc (.deferred (some []))).alloc (.loop (rc .ready)) = W1 := ⟨_, rfl⟩
  have z1 : W1.heap.size = w.heap.size + 2 := by rw [← hW1]; simp
  have turn : ∀ pre A l o', I pre A → w.heap.size ≤ l → (∃ o, A.heap[l]? = some o ∧ o.isCells = false) → I pre (A.putObj l o') := fun pre A l o' h hl ⟨o, ho, hc⟩ =>
    hI pre A _ h ⟨some l, grownBy_putObj' A l o', fun r e => by cases e; exact ⟨hl, o, ho, .inl hc⟩⟩
  have made : ∀ pre A o', I pre A → I pre (A.alloc o') := fun pre A o' h => hI pre A _ h ⟨none, World.grownBy_alloc A o' none, fun r e => by cases e⟩
  have L1 : W1.heap[w.heap.size + 1]? = some (.loop (rc .ready)) := by
    have := World.alloc_heap_new (w.alloc (.deferred (some []))) (.loop (rc .ready))
    rw [World.size_alloc, hW1] at this
    exact this
  have D1 : W1.heap[w.heap.size]? = some (.deferred (some [])) := by rw [← hW1]; exact (Below.heap_alloc _ _ _ (by simp)).trans (World.alloc_heap_new w _)
  have below1 : Below w0.heap.size w0 W1 := by rw [← hW1]; exact hb0.trans ((((Below.refl _ w).alloc (Nat.le_refl _) _).alloc (by simp) _).mono hb0.size)
  refine ⟨w.heap.size + 1, [{ target := .collected w.heap.size, args := #[] }], W1, { target := .fn (.func gf) lb, args := #[.func (.yield (w.heap.size + 1)) #[] #[]] }, W1, gf,
    #[.func (.yield (w.heap.size + 1)) #[] #[]] ++ lb, W1, ?_, ?_, ?_, ?_, fun _ => h1, ?_⟩
  · rw [← hW1, hrc]; exact run_enterLoop_outer _ _ _ _ _
  · simp only [resolve, hg]
    simp [go_sem]
  · intro f' hf'; simp [Target.leads] at hf'; subst hf'; exact hFg
  · simp [invoke, go_sem, eg]
  · refine (hseq (w.heap.size + 1) (fun pre W => I pre W ∧ W.heap[w.heap.size + 1]? = some (.loop (rc .ready)) ∧ W.heap[w.heap.size]? = some (.deferred (some []))) W1 below1 (by omega) ?_ ?_ ⟨by rw [← hW1]; exact made _ _ _ (made _ _ _ h0), L1, D1⟩).mono ?_
    · rintro pre A B ⟨hi, hl, hd⟩ ht
      refine ⟨hI pre A B hi ?_, keeps_recD ht hl (by omega), keeps_recD ht hd (by omega)⟩
      obtain ⟨row, hg', hr⟩ := ht
      exact ⟨row, hg', fun r e => by obtain ⟨hN, ho⟩ := hr r e; exact ⟨by omega, ho⟩⟩
    · rintro pre x post W hx ⟨hi, hl, hd⟩
      have hlt : w.heap.size + 1 < W.heap.size := (Array.getElem?_eq_some_iff.1 hl).1
      have hy := run_yield (P := P) (args := encs x) hl (by rw [hrc]; exact hps x)
      rw [hrc] at hy
      refine ⟨fn, _, assign, body, hy, roundIn_of_wpIn hfn (wpIn_mono (hassign _ pre x post W hx hi) ?_)⟩
      intro e c W' hp
      cases e with
      | normal =>
        obtain ⟨hk, hkp, hi', hax⟩ := hp
        have hl' : W'.heap[w.heap.size + 1]? = some (.loop (rc .ready)) := hk.same _ _ (by omega) hl rfl
        have hd' : W'.heap[w.heap.size]? = some (.deferred (some [])) := hk.same _ _ (Nat.le_refl _) hd rfl
        have hlt' : w.heap.size + 1 < W'.heap.size := (Array.getElem?_eq_some_iff.1 hl').1
        refine ⟨_, run_beginRound hl' (by rw [hrc]), ?_⟩
        have hl2 : (W'.putObj (w.heap.size + 1) (.loop { rc .ready with state := .busy })).heap[w.heap.size + 1]? = some (.loop { rc .ready with state := .busy }) := World.putObj_heap_same hlt'
        have hd2 : (W'.putObj (w.heap.size + 1) (.loop { rc .ready with state := .busy })).heap[w.heap.size]? = some (.deferred (some [])) := (World.putObj_heap_other (by omega)).trans hd'
        have hax2 : Ax x c (W'.putObj (w.heap.size + 1) (.loop { rc .ready with state := .busy })) := hAx x c W' _ hax ⟨some (w.heap.size + 1), grownBy_putObj' _ _ _, fun r e => by cases e; exact ⟨by omega, _, hl', .inl rfl⟩⟩
        refine wpIn_mono (hbody _ pre x post c _ hx (turn _ _ _ _ hi' (by omega) ⟨_, hl', rfl⟩) hax2) ?_
        intro e' c' W3 hp3
        cases e' with
        | normal =>
          obtain ⟨hk3, hkp3, hi3⟩ := hp3
          have hl3 := hk3.same _ _ (by omega) hl2 rfl
          have hd3 := hk3.same _ _ (Nat.le_refl _) hd2 rfl
          have he := run_endRound (P := P) none hl3
          rw [hrc] at he
          refine ⟨_, _, he, rfl, ⟨turn _ _ _ _ hi3 (by omega) ⟨_, hl3, rfl⟩, ?_, (World.putObj_heap_other (by omega)).trans hd3⟩, ?_⟩
          · rw [World.putObj_heap_same (Array.getElem?_eq_some_iff.1 hl3).1, hrc]; rfl
          · exact hKt (hKt hkp (hKb _ _ _ hl' rfl)) (hKt hkp3 (hKb _ _ _ hl3 rfl))
        | _ => exact hp3.elim
      | _ => exact hp.elim
    · rintro e W2 ⟨⟨v, rfl⟩, hi, hl, hd⟩
      have he := run_endLoop (P := P) hl (by rw [hrc]; simp)
      rw [hrc] at he
      exact ⟨none, _, he, hdone _ _ (Nat.le_refl _) (turn _ _ _ _ hi (by omega) ⟨_, hl, rfl⟩) ((World.putObj_heap_other (by omega)).trans hd)⟩

end Go.Proofs.YtbfknapmhkpgcaaGreatDoor
