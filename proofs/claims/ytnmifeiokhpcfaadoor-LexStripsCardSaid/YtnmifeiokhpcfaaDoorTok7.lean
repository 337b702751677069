/-
  Lists of tokens that came in: reslices, and appends onto a row of the call's own.
-/
import Derived.Test.YtnmifeiokhpcfaaDoorTok6
import Derived.Maps.AppendAt
import Derived.Laws.AppendOwnNone
import Derived.Laws.OwnMore
import Derived.OwnWalk

namespace Go.Proofs.YtnmifeiokhpcfaaDoor
open Go.RowKit
set_option linter.unusedVariables false

def To.cells (t : To) : List Value := [.int .i64 t.kind, .string t.text, .int .i64 t.n, .int .i64 t.man, .int .i64 t.ex, .int .i64 t.ofs, .int .i64 t.en]
def cellsT (l : List To) : List Value := l.flatMap To.cells
theorem cellsT_length (l : List To) : (cellsT l).length = l.length * 7 := by
  induction l with
  | nil => rfl
  | cons t l ih => simp only [cellsT, List.flatMap_cons, List.length_append, List.length_cons] at ih ⊢; rw [ih]; simp [To.cells]; omega
theorem cellsT_append (l k : List To) : cellsT (l ++ k) = cellsT l ++ cellsT k := by simp [cellsT]
theorem cellsT_get (l : List To) (k j : Nat) (hj : j < 7) (h : k < l.length) : (cellsT l)[k * 7 + j]? = (l[k].cells)[j]? := by
  induction l generalizing k with
  | nil => simp at h
  | cons x l ih =>
    have hx : x.cells.length = 7 := rfl
    have e : cellsT (x :: l) = x.cells ++ cellsT l := rfl
    rw [e]
    cases k with
    | zero =>
      rw [List.getElem?_append_left (by omega)]
      simp
    | succ k =>
      rw [List.getElem?_append_right (by omega), show (k + 1) * 7 + j - x.cells.length = k * 7 + j from by omega, ih k (by simpa using h)]
      rfl
theorem cellsT_one (l : List To) : ∀ u ∈ cellsT l, u.oneCell' = true := by
  intro u hu
  simp only [cellsT, List.mem_flatMap, To.cells] at hu
  obtain ⟨t, _, hu⟩ := hu
  simp only [List.mem_cons, List.not_mem_nil, or_false] at hu
  rcases hu with rfl | rfl | rfl | rfl | rfl | rfl | rfl <;> rfl

theorem plus_pos (a : Addr) {n : Nat} (h : 0 < n) : a.add n = ⟨a.block, a.off + n, none⟩ := by unfold Addr.add; rw [if_neg (by omega)]
theorem plus_block (a : Addr) (n : Nat) : (a.add n).block = a.block := by unfold Addr.add; split <;> rfl
theorem plus_off (a : Addr) (n : Nat) : (a.add n).off = a.off + n := by unfold Addr.add; split <;> simp_all
theorem plus_plus (a : Addr) (n m : Nat) : (a.add n).add m = a.add (n + m) := by
  rcases Nat.eq_zero_or_pos m with rfl | hm
  · rfl
  · rw [plus_pos _ hm, plus_pos a (show 0 < n + m from by omega), plus_block, plus_off]
    simp only [Addr.mk.injEq, true_and, and_true]
    omega

/-- the cells of tokens, one behind the other -/
theorem At7.get {w : World} {a : Addr} {t : To} (h : At7 w a t) {j : Nat} {u : Value} (hu : t.cells[j]? = some u) : w.cell? (a.add j) = some u := by
  have hj : j < 7 := (List.getElem?_eq_some_iff.1 hu).1
  have hp := fun n (hn : 0 < n) => plus_pos a (n := n) hn
  obtain ⟨_, c0, c1, c2, c3, c4, c5, c6⟩ := h
  match j, hj with
  | 0, _ => cases hu; exact c0
  | 1, _ => cases hu; rw [hp 1 (by decide)]; exact c1
  | 2, _ => cases hu; rw [hp 2 (by decide)]; exact c2
  | 3, _ => cases hu; rw [hp 3 (by decide)]; exact c3
  | 4, _ => cases hu; rw [hp 4 (by decide)]; exact c4
  | 5, _ => cases hu; rw [hp 5 (by decide)]; exact c5
  | 6, _ => cases hu; rw [hp 6 (by decide)]; exact c6
theorem At7.of {w : World} {a : Addr} {t : To} (h : ∀ j u, t.cells[j]? = some u → w.cell? (a.add j) = some u) : At7 w a t := by
  have hp := fun n (hn : 0 < n) => plus_pos a (n := n) hn
  have h1 := h 1 _ rfl
  have h2 := h 2 _ rfl
  have h3 := h 3 _ rfl
  have h4 := h 4 _ rfl
  have h5 := h 5 _ rfl
  have h6 := h 6 _ rfl
  rw [hp _ (by decide)] at h1 h2 h3 h4 h5 h6
  have h0 : w.cell? a = some (.int .i64 t.kind) := h 0 _ rfl
  exact ⟨World.block_lt_of_cell? w a h0, h0, h1, h2, h3, h4, h5, h6⟩
theorem Row.at_ {w : World} {ad : Addr} {l : List To} (h : Row w (some ad) l) : ∀ j u, (cellsT l)[j]? = some u → w.cell? (ad.add j) = some u := by
  intro j u hu
  have hj : j < l.length * 7 := by rw [← cellsT_length]; exact (List.getElem?_eq_some_iff.1 hu).1
  have hk : j / 7 < l.length := by omega
  obtain ⟨a, ha, h7⟩ := h (j / 7) hk
  cases ha
  rw [show j = j / 7 * 7 + j % 7 from by omega, cellsT_get l _ _ (by omega) hk] at hu
  have := h7.get hu
  rw [plus_plus, show j / 7 * 7 + j % 7 = j from by omega] at this
  exact this
theorem Row.own {w : World} {base : Nat} {e : TypeId} {A : Option Addr} {c n : Nat} {l : List To} (h : w.ownsRow base e 7 (.slice A n c) n (cellsT l)) : Row w A l ∧ l.length = n := by
  have hl : l.length = n := by have := h.1; rw [cellsT_length] at this; omega
  refine ⟨fun i hi => ?_, hl⟩
  have hp : 0 < n := by omega
  obtain ⟨g, cap, hv, _, _⟩ := h.form hp
  injection hv with hA
  subst hA
  refine ⟨_, rfl, At7.of fun j u hu => ?_⟩
  have hj : j < 7 := (List.getElem?_eq_some_iff.1 hu).1
  have := h.cells (g := g) rfl (i * 7 + j) u (by rw [cellsT_get l i j hj hi]; exact hu)
  rw [plus_plus]
  rcases Nat.eq_zero_or_pos (i * 7 + j) with h0 | h0
  · rw [h0] at this ⊢
    exact this
  · rw [plus_pos _ h0] at this ⊢
    exact this

theorem made_is (l0 l1 : List To) : [] ++ l0.take (diffH l0 l1) ++ (l1.drop (diffH l0 l1)).take (l1.length - diffT l0 l1 - diffH l0 l1) ++ (l0.drop (l0.length - diffT l0 l1)).take (l0.length - (l0.length - diffT l0 l1)) = madeT l0 l1 := by
  rw [List.take_of_length_le (l := l0.drop (l0.length - diffT l0 l1)) (i := l0.length - (l0.length - diffT l0 l1)) (by rw [List.length_drop]; exact Nat.le_refl _)]
  rfl
/-- a reslice -/
def rsl (o : Option Addr) (cap lo : Nat) : Option Addr := if cap = lo then o else o.map (·.add (lo * 7))
theorem Row.cut {w : World} {o : Option Addr} {l : List To} (h : Row w o l) (cap lo hi : Nat) (h1 : lo ≤ hi) (h2 : hi ≤ l.length) (h3 : l.length ≤ cap) : Row w (rsl o cap lo) ((l.drop lo).take (hi - lo)) := by
  intro i hi'
  have hl : i < hi - lo := by rw [List.length_take, List.length_drop] at hi'; omega
  obtain ⟨a, ha, h7⟩ := h (lo + i) (by omega)
  refine ⟨a.add (lo * 7), ?_, ?_⟩
  · unfold rsl
    rw [if_neg (by omega), ha]
    rfl
  · rw [plus_plus, ← Nat.add_mul]
    simpa using h7
theorem rsl_none {o : Option Addr} {c lo : Nat} (h : rsl o c lo = none) : o = none := by
  unfold rsl at h
  split at h
  · exact h
  · cases o
    · rfl
    · cases h
theorem Row.take {w : World} {o : Option Addr} {l : List To} (h : Row w o l) (n : Nat) : Row w o (l.take n) := by
  intro i hi'
  have hl : i < l.length := by rw [List.length_take] at hi'; omega
  obtain ⟨a, ha, h7⟩ := h i hl
  exact ⟨a, ha, by simpa using h7⟩
theorem one_same (a b : List To) (k j : Nat) (hk : k < a.length) (hj : j < b.length) : sameT ((a.drop k).take 1) ((b.drop j).take 1) = alikeT a[k] b[j] := by
  rw [List.drop_eq_getElem_cons hk, List.drop_eq_getElem_cons hj]
  show (alikeT a[k] b[j] && sameT ((a.drop (k + 1)).take 0) ((b.drop (j + 1)).take 0)) = _
  rw [List.take_zero, List.take_zero]
  exact Bool.and_true _
theorem Row.empty (w : World) (o : Option Addr) : Row w o [] := fun i h => absurd h (Nat.not_lt_zero _)

/-- Same of two reslices of one token each -/
theorem same_one {w : World} {o o2 : Option Addr} {cap cap2 : Nat} {l l2 : List To} (hr : Row w o l) (hr2 : Row w o2 l2) {k j : Nat} (hk : k < l.length) (hj : j < l2.length) (hc : l.length ≤ cap) (hc2 : l2.length ≤ cap2) :
    Calls Tryd.prog 11 #[.slice (Option.map (fun x => x.add (k * 7)) o) 1 (cap - k), .slice (Option.map (fun x => x.add (j * 7)) o2) 1 (cap2 - j)] w fun r w' => r = .returned (.bool (alikeT l[k] l2[j])) ∧ Below w.heap.size w w' := by
  have r1 := hr.cut cap k (k + 1) (by omega) (by omega) hc
  have r2 := hr2.cut cap2 j (j + 1) (by omega) (by omega) hc2
  rw [Nat.add_sub_cancel_left] at r1 r2
  have e1 : rsl o cap k = Option.map (fun x => x.add (k * 7)) o := by unfold rsl; rw [if_neg (by omega)]
  have e2 : rsl o2 cap2 j = Option.map (fun x => x.add (j * 7)) o2 := by unfold rsl; rw [if_neg (by omega)]
  rw [e1] at r1
  rw [e2] at r2
  have n1 : ((l.drop k).take 1).length = 1 := by rw [List.length_take, List.length_drop]; omega
  have n2 : ((l2.drop j).take 1).length = 1 := by rw [List.length_take, List.length_drop]; omega
  have h := same_any _ _ (cap - k) (cap2 - j) _ _ w r1 r2 (by rw [n1]; simp only [maxLen]; omega)
  rw [n1, n2, one_same l l2 k j hk hj] at h
  exact h
/-- append of tokens onto a row of the call's own -/
theorem wpl_toks {P : Program} (w : World) {ops : Array Oper} {rest : List Oper} {o : Oper} {a : Act} {Q : Exit → Act → World → Prop} (hgd : o.guard = none) (s x : Operand) (t : TypeId)
    (ho : o.op = .call { callee := .builtin .append, args := #[s, x], argTypes := #[t, t] })
    (base : Nat) (e : TypeId) (i : TypeInfo) (z : Value) (ht : P.underlying t = some (.slice e)) (hi : P.info? e = some i) (hz : i.zero = some z) (hzs : z.cells.size = 7) (hsize : i.size = 7) (hby : i.bytes = 64)
    (v : Value) (n : Nat) (k l : List To) (hs : a.eval s = v) (hown : w.ownsRow base e 7 v n (cellsT k))
    (A : Option Addr) (m c : Nat) (hx : a.eval x = .slice A m c) (hl : l.length = m) (hr : Row w A l) (hA : A = none → m = 0 ∧ c = 0)
    (room : (n + m) * 64 ≤ 140737488355328) (hbase : base ≤ w.heap.size)
    (h : ∀ v' w', w'.ownsRow base e 7 v' (n + m) (cellsT (k ++ l)) → w.grownBy w' v.ownBlock → wpList P ops Q rest (a.put o.dst v') w') :
    wpList P ops Q (o :: rest) a w := by
  rcases A with _ | ad
  · obtain ⟨rfl, rfl⟩ := hA rfl
    obtain rfl : l = [] := List.eq_nil_of_length_eq_zero hl
    refine wpList_append_own_none (w := w) hgd s x t ho base e i 7 ht hi v n (cellsT k) hs hown hx ?_
    exact h v w (by simpa using hown) (World.grownBy.refl w _)
  · refine wpList_append_own_at (w := w) hgd s x t ho base e i z 7 64 ht hi hz hsize hby hzs (by omega) v n (cellsT k) hs hown ad m c (cellsT l) hx (by rw [cellsT_length, hl]) hr.at_ (cellsT_one l) (by simp only [maxLen]; omega) room hbase ?_
    intro v' w' h1 h2 _ h4
    exact h v' w' (by rw [cellsT_append]; exact h1) h2
theorem own7_slice {w : World} {base : Nat} {e : TypeId} {v : Value} {n : Nat} {xs : List Value} (h : w.ownsRow base e 7 v n xs) :
    ∃ A c, v = .slice A n c := by
  rcases h.2 with ⟨rfl, rfl⟩ | ⟨g, cap, cur, rfl, _⟩
  · exact ⟨none, 0, rfl⟩
  · exact ⟨_, _, rfl⟩
theorem own7_ge {w : World} {base : Nat} {e : TypeId} {v : Value} {n : Nat} {xs : List Value} (h : w.ownsRow base e 7 v n xs) : ∀ g, v.ownBlock = some g → base ≤ g := by
  intro g hg
  rcases h.2 with ⟨rfl, rfl⟩ | ⟨g', cap, cur, rfl, hb, _⟩
  · simp [Value.ownBlock] at hg
  · simp [Value.ownBlock] at hg
    omega
end Go.Proofs.YtnmifeiokhpcfaaDoor
