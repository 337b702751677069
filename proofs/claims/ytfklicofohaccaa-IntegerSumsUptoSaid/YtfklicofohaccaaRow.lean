/-
  APPEND ONTO A ROW OF INTEGERS OF THE CALL'S OWN.
-/
import Derived.Test.YtfklicofohaccaaSum
import Derived.Maps.AppendAt
import Derived.Laws.AppendOwnNone
import Derived.Laws.OwnMore
import Derived.Deep.AppendLies
import Derived.RegionTactic
import Derived.OwnWalk
import Derived.Below
import Derived.Laws.IdiomStrings

namespace Go.Proofs.Ytfklicofohaccaa
open Go.RowKit

/-- integers as cells -/
def ints (l : List Int) : List Value := l.map (Value.int .i64)

theorem ints_one (l : List Int) : ∀ u ∈ ints l, u.oneCell' = true := by
  intro u hu
  simp only [ints, List.mem_map] at hu
  obtain ⟨n, _, rfl⟩ := hu
  rfl

theorem ints_get {l : List Int} {j : Nat} {u : Value} (h : (ints l)[j]? = some u) : j < l.length ∧ u = .int .i64 (l[j]?.getD 0) := by
  simp only [ints, List.getElem?_map] at h
  rcases hj : l[j]? with _ | x
  · rw [hj] at h; simp at h
  · rw [hj] at h
    simp at h
    exact ⟨(List.getElem?_eq_some_iff.1 hj).1, by rw [← h]; rfl⟩

theorem Reads.at_ {w : World} {ad : Addr} {l : List Int} (h : Reads w (some ad) l) : ∀ j u, (ints l)[j]? = some u → w.cell? (ad.add j) = some u := by
  intro j u hu
  obtain ⟨hj, rfl⟩ := ints_get hu
  rcases h with rfl | ⟨b, off, he, hc⟩
  · simp at hj
  · injection he with he
    subst he
    have := hc j hj
    rcases j with _ | j
    · simpa [Addr.add] using this
    · simpa [Addr.add] using this

/-- a row of the call's own reads as its list -/
theorem Reads.own {w : World} {base : Nat} {e : TypeId} {A : Option Addr} {c : Nat} {l : List Int} {n : Nat} (h : w.ownsRow base e 1 (.slice A n c) n (ints l)) : Reads w A l ∧ l.length = n := by
  have hl : l.length = n := by have := h.1; simpa [ints] using this
  refine ⟨?_, hl⟩
  by_cases h0 : l = []
  · exact .inl h0
  · right
    have hp : 0 < n := by rcases l with _ | _; exact absurd rfl h0; simp at hl; omega
    obtain ⟨g, cap, hv, _, _⟩ := h.form hp
    injection hv with hA
    subst hA
    refine ⟨g, 0, rfl, fun i hi => ?_⟩
    have := h.cells (g := g) rfl i (.int .i64 (l[i]?.getD 0)) (by simp only [ints, List.getElem?_map]; rw [List.getElem?_eq_getElem hi]; rfl)
    rcases i with _ | i
    · simpa [Addr.add] using this
    · simpa [Addr.add] using this

theorem wpl_more {P : Program} (w : World) {ops : Array Oper} {rest : List Oper} {o : Oper} {a : Act} {Q : Exit → Act → World → Prop} (hgd : o.guard = none) (s x : Operand) (t : TypeId)
    (ho : o.op = .call { callee := .builtin .append, args := #[s, x], argTypes := #[t, t] })
    (base : Nat) (e : TypeId) (i : TypeInfo) (ht : P.underlying t = some (.slice e)) (hi : P.info? e = some i) (hz : i.zero = some (.int .i64 0)) (hsize : i.size = 1) (hby : i.bytes = 8)
    (v : Value) (n : Nat) (k l : List Int) (hs : a.eval s = v) (hown : w.ownsRow base e 1 v n (ints k))
    (A : Option Addr) (m c : Nat) (hx : a.eval x = .slice A m c) (hl : l.length = m) (hr : Reads w A l) (hA : A = none → m = 0 ∧ c = 0)
    (room : n + m ≤ 16777216) (hbase : base ≤ w.heap.size)
    (h : ∀ v' w', w'.ownsRow base e 1 v' (n + m) (ints (k ++ l)) → w.grownBy w' v.ownBlock → (v'.ownBlock = v.ownBlock ∨ v'.ownBlock = some w.heap.size) → wpList P ops Q rest (a.put o.dst v') w') :
    wpList P ops Q (o :: rest) a w := by
  rcases A with _ | ad
  · obtain ⟨rfl, rfl⟩ := hA rfl
    obtain rfl : l = [] := List.eq_nil_of_length_eq_zero hl
    refine wpList_append_own_none (w := w) hgd s x t ho base e i 1 ht hi v n (ints k) hs hown hx ?_
    exact h v w (by simpa using hown) (World.grownBy.refl w _) (.inl rfl)
  · refine wpList_append_own_at (w := w) hgd s x t ho base e i (.int .i64 0) 1 8 ht hi hz hsize hby rfl (by omega) v n (ints k) hs hown ad m c (ints l) hx (by simpa [ints] using hl) hr.at_ (ints_one l) (by simp only [maxLen]; omega) (by omega) hbase ?_
    intro v' w' h1 h2 _ h4
    exact h v' w' (by simpa [ints] using h1) h2 h4

theorem int_info : (Try.prog.info? 3).map (fun i => (i.zero, i.size, i.bytes)) = some (some (.int .i64 0), 1, 8) := by kernel_rfl

theorem int_parts : ∃ i, Try.prog.info? 3 = some i ∧ i.zero = some (.int .i64 0) ∧ i.size = 1 ∧ i.bytes = 8 := by
  have h := int_info
  rcases hi : Try.prog.info? 3 with _ | i
  · rw [hi] at h; simp at h
  · rw [hi] at h
    simp at h
    exact ⟨i, rfl, h.1, h.2.1, h.2.2⟩

theorem Reads.below {w w' : World} {A : Option Addr} {l : List Int} (h : Reads w A l) (hB : Below w.heap.size w w') : Reads w' A l := by
  rcases h with rfl | ⟨b, off, rfl, hc⟩
  · exact .inl rfl
  · exact .inr ⟨b, off, rfl, fun i hi => (hB.cell (World.block_lt_of_cell? w _ (hc i hi))).trans (hc i hi)⟩

theorem own_slice {w : World} {base : Nat} {e : TypeId} {v : Value} {n : Nat} {xs : List Value} (h : w.ownsRow base e 1 v n xs) :
    ∃ A c, v = .slice A n c ∧ (A = none → n = 0 ∧ c = 0) := by
  rcases h.2 with ⟨rfl, rfl⟩ | ⟨g, cap, cur, rfl, _⟩
  · exact ⟨none, 0, rfl, fun _ => ⟨rfl, rfl⟩⟩
  · exact ⟨_, _, rfl, fun h => by cases h⟩

theorem own_ge {w : World} {base : Nat} {e : TypeId} {v : Value} {n : Nat} {xs : List Value} (h : w.ownsRow base e 1 v n xs) : ∀ g, v.ownBlock = some g → base ≤ g := by
  intro g hg
  rcases h.2 with ⟨rfl, rfl⟩ | ⟨g', cap, cur, rfl, hb, _⟩
  · simp [Value.ownBlock] at hg
  · simp [Value.ownBlock] at hg
    omega

theorem reads_new (w : World) (x : Int) (e : TypeId) : Reads (w.alloc (.cells #[.int .i64 x] e)) (some ⟨w.heap.size, 0, none⟩) [x] := by
  refine .inr ⟨w.heap.size, 0, rfl, fun i hi => ?_⟩
  obtain rfl : i = 0 := by simpa using hi
  exact World.cell?_alloc_mark w #[.int .i64 x] e (0, 0) 0

theorem sum_len (a : Option Addr) (n cap : Nat) (l : List Int) (w : World) (hR : Reads w a l) (hn : l.length = n) (hm : n ≤ 9223372036854775807) :
    Calls Try.prog 40 #[.slice a n cap] w fun e w' => e = .returned (pairI (sumV l) (sumE l)) ∧ w = w' := by
  subst hn
  exact sum_any a cap l w hR hm

theorem w64_add (a b : Int) : wrap64 (wrap64 a + b) = wrap64 (a + b) := by
  unfold wrap64
  omega

theorem w64_small {a : Int} (h : -9223372036854775808 ≤ a ∧ a ≤ 9223372036854775807) : wrap64 a = a := by
  unfold wrap64
  omega

theorem foldl_w (l : List Int) (a : Int) : l.foldl (fun s x => wrap64 (s + x)) (wrap64 a) = wrap64 (a + l.sum) := by
  induction l generalizing a with
  | nil => simp
  | cons x l ih => rw [List.foldl_cons, w64_add, ih, List.sum_cons, Int.add_assoc]

theorem sumW_eq (l : List Int) : sumW l = wrap64 l.sum := by
  have := foldl_w l 0
  rw [w64_small (by omega), Int.zero_add] at this
  exact this

theorem sum_rev (l : List Int) : l.reverse.sum = l.sum := by
  induction l with
  | nil => rfl
  | cons x l ih => rw [List.reverse_cons, List.sum_append, ih, List.sum_cons]; simp; omega

theorem rev_sum (l : List Int) : sumV l.reverse = sumV l ∧ sumE l.reverse = sumE l := by
  have h1 : sumW l.reverse = sumW l := by rw [sumW_eq, sumW_eq, sum_rev]
  have h2 : l.reverse.all vld = l.all vld := by simp [List.all_reverse]
  unfold sumV sumE
  rw [h1, h2]
  exact ⟨rfl, rfl⟩

theorem sumE_zero {l : List Int} (h : sumE l = 0) : l.all vld = true ∧ vld (sumW l) = true ∧ sumV l = sumW l := by
  unfold sumE at h
  rcases ha : l.all vld
  · rw [ha] at h; simp at h
  · rw [ha] at h
    rcases hb : vld (sumW l)
    · simp [exE, hb] at h
    · exact ⟨rfl, rfl, by simp [sumV, ha, exV, hb]⟩

theorem both_sum {k l : List Int} (hk : sumE k = 0) (hl : sumE l = 0) : addV (sumV k) (sumV l) = sumV (k ++ l) ∧ addE (sumV k) (sumV l) = sumE (k ++ l) := by
  obtain ⟨k1, k2, k3⟩ := sumE_zero hk
  obtain ⟨l1, l2, l3⟩ := sumE_zero hl
  have e : sumW (k ++ l) = sumW k + sumW l := by
    have h1 := vld_iff.1 k2
    have h2 := vld_iff.1 l2
    have h3 : sumW (k ++ l) = wrap64 (sumW k + sumW l) := by
      rw [sumW_eq k, w64_add, Int.add_comm, sumW_eq l, w64_add, sumW_eq, List.sum_append, Int.add_comm]
    rw [h3, w64_small (by omega)]
  have hb : bth (sumW k) (sumW l) = true := by unfold bth; rw [k2, l2]; rfl
  rw [k3, l3]
  unfold addV addE sumV sumE
  rw [hb, e, List.all_append, k1, l1]
  exact ⟨rfl, rfl⟩

theorem drop_rev {both : List Int} {m : Nat} (h : m < both.length) : (both.drop (m + 1)).reverse ++ [both[m]?.getD 0] = (both.drop m).reverse := by
  rw [List.drop_eq_getElem_cons h, List.reverse_cons, List.getElem?_eq_getElem h]
  rfl

theorem add_sums {k l : List Int} (hk : sumE k = 0) (hl : sumE l = 0) (w : World) :
    Calls Try.prog 21 #[.int .i64 (sumV k), .int .i64 (sumV l)] w fun e w' => e = .returned (pairI (sumV (k ++ l)) (sumE (k ++ l))) ∧ w = w' := by
  have := add_any (sumV k) (sumV l) w
  rw [(both_sum hk hl).1, (both_sum hk hl).2] at this
  exact this

end Go.Proofs.Ytfklicofohaccaa
