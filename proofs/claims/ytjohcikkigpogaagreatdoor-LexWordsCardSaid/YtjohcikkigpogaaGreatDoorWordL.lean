/-
  PACKAGE lex: the lists of words and signs, as values; which lists are equal.
-/
import Derived.Test.YtjohcikkigpogaaGreatDoorLex7
import Derived.Test.YtjohcikkigpogaaGreatDoorShelf
import Derived.LoopTactic
import Derived.Deep.QuietTactic

namespace Go.Proofs.YtjohcikkigpogaaGreatDoor
open Go.RowKit
set_option linter.unusedVariables false

/-- a value that is a list of strings in memory -/
def SR (w : World) (v : Value) (l : List ByteArray) : Prop :=
  ∃ g o c, v = .slice (some ⟨g, o, none⟩) l.length c ∧ (∀ j, j < l.length → w.cell? ⟨g, o + j, none⟩ = some (.string (l.getD j ByteArray.empty))) ∧ g < w.heap.size
theorem SR.kept {w w' : World} {v : Value} {l : List ByteArray} (h : SR w v l) (hb : Below w.heap.size w w') : SR w' v l := by
  obtain ⟨g, o, c, h1, h2, h3⟩ := h
  exact ⟨g, o, c, h1, fun j hj => (hb.cell (p := ⟨g, o + j, none⟩) h3).trans (h2 j hj), Nat.lt_of_lt_of_le h3 hb.size⟩
theorem SR.own {w : World} {base : Nat} {e : TypeId} {v : Value} {n : Nat} {l : List ByteArray} (h : w.ownsRow base e 1 v n (l.map Value.string)) (hl : l.length = n) (h0 : 0 < n) : SR w v l := by
  obtain ⟨g, cap, hv, hg, _⟩ := h.form h0
  subst hl
  refine ⟨g, 0, cap, hv, fun j hj => ?_, ?_⟩
  · have := h.cells (g := g) (by rw [hv]; rfl) j (.string (l.getD j ByteArray.empty)) (by simp [List.getD, hj])
    rcases j with _ | j
    · simpa [Addr.add] using this
    · simpa [Addr.add] using this
  · have := h.cells (g := g) (by rw [hv]; rfl) 0 (.string (l.getD 0 ByteArray.empty)) (by simp [List.getD, h0])
    exact World.block_lt_of_cell? w _ this
theorem SR.new (w : World) (l : List ByteArray) (T : TypeId) : SR (w.alloc (.cells (l.map Value.string).toArray T)) (.slice (some ⟨w.heap.size, 0, none⟩) l.length l.length) l := by
  refine ⟨w.heap.size, 0, l.length, rfl, fun j hj => ?_, by simp⟩
  have h : (w.alloc (.cells (l.map Value.string).toArray T)).heap[w.heap.size]? = some (.cells (l.map Value.string).toArray T) := by
    show (w.heap.push _)[w.heap.size]? = _
    simp
  simp only [World.cell?, h, Nat.zero_add]
  simp [List.getD, hj]

set_option maxRecDepth 100000 in
set_option maxHeartbeats 1600000 in
theorem words_any (w : World) (h : TabAt w w.heap.size 0 wordL) :
    Calls Tryz.prog 4 #[] w fun r w' => ∃ v, r = .returned v ∧ SR w' v wordL ∧ Below w.heap.size w w' := by
  obtain ⟨g, o, c, h1, h2, h3, h4⟩ := h
  have HC := Lib.hid (Tryz.slices_Clone_string g o wordL.length c wordL w (Nat.le_refl _) (by decide) h2)
  rw [show (wordL.take wordL.length).map Value.string = wordL.map Value.string from by rw [List.take_length]] at HC
  have HP := Lib.hid (show 0 < wordL.length from by decide)
  clear h2
  have HLn : Hid (wordL.length = wordL.length) := Lib.hid rfl
  generalize hn : wordL.length = n at h1 HC HP HLn
  have HN := Lib.hid hn
  clear hn
  go_enter Tryz.func4, Tryz.ntmps4
  go_wp2_with fail
  refine HC.out.mono ?_
  rintro r w1 ⟨v, rfl, ho, _, hb⟩
  have HO := Lib.hid (SR.own ho HN.out HP.out)
  have HB := Lib.hid hb
  clear ho hb
  go_wp2_with fail
  go_ret
  exact ⟨v, rfl, HO.out, HB.out⟩

set_option maxRecDepth 100000 in
set_option maxHeartbeats 1600000 in
theorem signs_any (w : World) (h : TabAt w w.heap.size 1 signL) :
    Calls Tryz.prog 5 #[] w fun r w' => ∃ v, r = .returned v ∧ SR w' v signL ∧ Below w.heap.size w w' := by
  obtain ⟨g, o, c, h1, h2, h3, h4⟩ := h
  have HC := Lib.hid (Tryz.slices_Clone_string g o signL.length c signL w (Nat.le_refl _) (by decide) h2)
  rw [show (signL.take signL.length).map Value.string = signL.map Value.string from by rw [List.take_length]] at HC
  have HP := Lib.hid (show 0 < signL.length from by decide)
  clear h2
  have HLn : Hid (signL.length = signL.length) := Lib.hid rfl
  generalize hn : signL.length = n at h1 HC HP HLn
  have HN := Lib.hid hn
  clear hn
  go_enter Tryz.func5, Tryz.ntmps5
  go_wp2_with fail
  refine HC.out.mono ?_
  rintro r w1 ⟨v, rfl, ho, _, hb⟩
  have HO := Lib.hid (SR.own ho HN.out HP.out)
  have HB := Lib.hid hb
  clear ho hb
  go_wp2_with fail
  go_ret
  exact ⟨v, rfl, HO.out, HB.out⟩

set_option maxRecDepth 100000 in
set_option maxHeartbeats 1600000 in
theorem rwords_any (w : World) :
    Calls Tryz.prog 7 #[] w fun r w' => ∃ v, r = .returned v ∧ SR w' v wordL ∧ Below w.heap.size w w' := by
  go_enter Tryz.func7, Tryz.ntmps7
  go_wp2_with fail
  refine bodyPost_ret (v := .slice (some ⟨w.heap.size, 0, none⟩) wordL.length wordL.length) (by simp [results, Tryz.results7, go_sem]; rfl) rfl ⟨_, rfl, SR.new w wordL 9, (Below.refl _ _).alloc (Nat.le_refl _) _⟩

set_option maxRecDepth 100000 in
set_option maxHeartbeats 1600000 in
theorem rsigns_any (w : World) :
    Calls Tryz.prog 8 #[] w fun r w' => ∃ v, r = .returned v ∧ SR w' v signL ∧ Below w.heap.size w w' := by
  go_enter Tryz.func8, Tryz.ntmps8
  go_wp2_with fail
  refine bodyPost_ret (v := .slice (some ⟨w.heap.size, 0, none⟩) signL.length signL.length) (by simp [results, Tryz.results8, go_sem]; rfl) rfl ⟨_, rfl, SR.new w signL 9, (Below.refl _ _).alloc (Nat.le_refl _) _⟩

set_option maxRecDepth 100000 in
set_option maxHeartbeats 1600000 in
theorem equal_rows (w : World) (v u : Value) (l : List ByteArray) (h1 : SR w v l) (h2 : SR w u l) (hl : l.length ≤ 1000) :
    Calls Tryz.prog 6 #[v, u] w fun r w' => r = .returned (.bool true) ∧ ∃ m, w' = w.drewN m := by
  obtain ⟨g, o, c, rfl, hc, _⟩ := h1
  obtain ⟨g2, o2, c2, rfl, hc2, _⟩ := h2
  have HC := Lib.hid hc
  have HC2 := Lib.hid hc2
  clear hc hc2
  have hli : (l.length : Int) ≤ 1000 := by omega
  go_enter Tryz.func6, Tryz.ntmps6
  go_wp2_with fail
  go_loopw [5] (fun i wr => ∃ k m : Nat, k ≤ l.length ∧ i = .int .i64 k ∧ wr = w.drewN m) (fun i _ => l.length - (intOf i).toNat)
  case atStart => exact ⟨0, 0, Nat.zero_le _, rfl, rfl⟩
  case round =>
    obtain ⟨k, m, hk, rfl, rfl⟩ := hrel
    by_cases hlt : k < l.length
    · have h1 := HC.out k hlt
      have h2 := HC2.out k hlt
      have hki : (k : Int) < (l.length : Int) := by omega
      generalize l.getD k ByteArray.empty = t at h1 h2
      go_wp2_with fail
      go_quiet (fail)
      go_wp2_with fail
      exact ⟨⟨k + 1, m + nq, by omega, by simp, by first | rfl | (rw [World.drewN_drewN])⟩, by simp [intOf]; omega⟩
    · obtain rfl : k = l.length := by omega
      go_wp2_with fail
      go_ret
      exact ⟨rfl, m, rfl⟩

end Go.Proofs.YtjohcikkigpogaaGreatDoor
