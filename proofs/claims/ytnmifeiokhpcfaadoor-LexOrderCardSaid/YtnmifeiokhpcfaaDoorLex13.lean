/-
  PACKAGE lex: Lex.
-/
import Derived.Test.YtnmifeiokhpcfaaDoorLex12
import Derived.Defers
import Derived.Recover
import Derived.Laws.Pointers
import Derived.BigQuiet
import Derived.Deep.QuietTactic
import Derived.WalkLawsBesides

namespace Go.Proofs.YtnmifeiokhpcfaaDoor
open Go.RowKit
set_option linter.unusedVariables false

theorem below_drewN' {B : Nat} {a w : World} (h : Below B a w) : Below B a w.drew := h.drew
theorem catch_panicking (b2 b3 b4 : Nat) (e i : Int) (v0 v1 v2 : Value) (w : World) (h2 : w.cell? ⟨b2, 0, none⟩ = some v0) (h3 : w.cell? ⟨b3, 0, none⟩ = some v1) (h4 : w.cell? ⟨b4, 0, none⟩ = some v2)
    (f2 : w.frozen? ⟨b2, 0, none⟩ = false) (f3 : w.frozen? ⟨b3, 0, none⟩ = false) (f4 : w.frozen? ⟨b4, 0, none⟩ = false) (n1 : b2 < b3) (n2 : b3 < b4) (n3 : b4 < w.heap.size) (older : List PanicEntry) :
    CallsD Tryd.prog 12 #[.pointer (some ⟨b2, 0, none⟩), .pointer (some ⟨b3, 0, none⟩), .pointer (some ⟨b4, 0, none⟩)] (.panicking ({ v := .iface 44 (.agg #[.int .i64 e, .int .i64 i]), recovered := false } :: older)) w fun r u' w' =>
      r = .returned (.tuple #[]) ∧ u' = .panicking ({ v := .iface 44 (.agg #[.int .i64 e, .int .i64 i]), recovered := true } :: older) ∧ w'.cell? ⟨b2, 0, none⟩ = some (.slice none 0 0) ∧ w'.cell? ⟨b3, 0, none⟩ = some (.int .i64 e) ∧ w'.cell? ⟨b4, 0, none⟩ = some (.int .i64 i) ∧ Below b2 w w' := by
  refine callsD_of_wpS Tryd.func12 rfl fun c₀ cs hu => ?_
  have hta : ∀ (w : World), (Instr.typeAssert (.iface 44 (.agg #[.int .i64 e, .int .i64 i])) 20 44 true).run Tryd.prog w = .ok (.tuple #[.agg #[.int .i64 e, .int .i64 i], .bool true]) w := fun w => by kernel_rfl
  have hrep : Array.replicate 12 undef = #[undef, undef, undef, undef, undef, undef, undef, undef, undef, undef, undef, undef] := rfl
  have hrep15 : Tryd.ntmps12 = Tryd.ntmps12 := rfl
  apply wpS_seq
  apply wpS_region
  simp [wpOpsS, go_sem, recoverD, hu, hta, hrep, Tryd.ntmps12, Exit.thenS]
  refine wpS_of_wp ?_
  have HB := Lib.hid (show ∀ (W : World) (x y z : Value), Below b2 w W → Below b2 w (((W.setCell ⟨b2, 0, none⟩ x).setCell ⟨b3, 0, none⟩ y).setCell ⟨b4, 0, none⟩ z) from fun W x y z h =>
    ((h.setCell (p := ⟨b2, 0, none⟩) (Nat.le_refl _) x).setCell (p := ⟨b3, 0, none⟩) (by simp; omega) y).setCell (p := ⟨b4, 0, none⟩) (by simp; omega) z)
  have m1 : b2 < w.heap.size := by omega
  have m2 : b3 < w.heap.size := by omega
  have k1 : ¬ b2 = b3 := by omega
  have k2 : ¬ b3 = b4 := by omega
  have k3 : ¬ b2 = b4 := by omega
  have k4 : ¬ b3 = b2 := by omega
  have k5 : ¬ b4 = b3 := by omega
  have k6 : ¬ b4 = b2 := by omega
  go_wp2_with fail
  go_region
  all_goals go_wp2_with fail
  all_goals
    simp [bodyPostS, results, Tryd.results12]
    refine ⟨?_, ?_, ?_, ?_⟩
    all_goals first | (go_simp; done) | exact ((HB.out _ _ _ _ (Below.refl b2 w)).alloc (by simp; omega) _).drew | trace_state

theorem catch_idle (b2 b3 b4 : Nat) (w : World) :
    CallsD Tryd.prog 12 #[.pointer (some ⟨b2, 0, none⟩), .pointer (some ⟨b3, 0, none⟩), .pointer (some ⟨b4, 0, none⟩)] .returning w fun r u' w' =>
      r = .returned (.tuple #[]) ∧ u' = .returning ∧ Below w.heap.size w w' := by
  refine callsD_of_wpS Tryd.func12 rfl fun c₀ cs hu => ?_
  have hta : ∀ (w : World), (Instr.typeAssert .nilIface 20 44 true).run Tryd.prog w = .ok (.tuple #[.agg #[.int .i64 0, .int .i64 0], .bool false]) w := fun w => by kernel_rfl
  have hrep : Array.replicate 12 undef = #[undef, undef, undef, undef, undef, undef, undef, undef, undef, undef, undef, undef] := rfl
  apply wpS_seq
  apply wpS_region
  simp [wpOpsS, go_sem, recoverD, hu, hta, hrep, Tryd.ntmps12, Exit.thenS]
  refine wpS_of_wp ?_
  have B1 := Lib.hid (show ∀ o, Below w.heap.size w (w.alloc o) from fun o => (Below.refl _ _).alloc (Nat.le_refl _) _)
  go_wp2_with fail
  cases c₀
  simp_all [bodyPostS, results, Tryd.results12]
  exact B1.out _

theorem ownsRow_base {w : World} {b b' : Nat} {e : TypeId} {k : Nat} {v : Value} {n : Nat} {xs : List Value} (h : w.ownsRow b e k v n xs) (hb : b' ≤ b) : w.ownsRow b' e k v n xs := by
  obtain ⟨h1, h2⟩ := h
  refine ⟨h1, ?_⟩
  rcases h2 with h2 | ⟨g, cap, cur, hv, hg, hh, r⟩
  · exact .inl h2
  · exact .inr ⟨g, cap, cur, hv, by omega, hh, r⟩

theorem TabAt.mono {w : World} {B B' k : Nat} {l : List ByteArray} (h : TabAt w B k l) (hB : B ≤ B') : TabAt w B' k l := by
  obtain ⟨g, o, c, h1, h2, h3, h4⟩ := h
  exact ⟨g, o, c, h1, h2, by omega, by omega⟩
/-- WHAT Lex RETURNS, at a text that is not too long. -/
def LexP (w : World) (o : ScanR) (r : Ending) (w' : World) : Prop :=
  Below w.heap.size w w' ∧ match o with
  | .error (e, i) => r = .returned (.tuple #[.slice none 0 0, .int .i64 e, .int .i64 i])
  | .ok l => ∃ v, r = .returned (.tuple #[v, .int .i64 0, .int .i64 0]) ∧ w'.ownsRow w.heap.size 37 7 v l.length (cellsOf l)

set_option maxRecDepth 100000 in
set_option maxHeartbeats 2000000 in
theorem lex_any {w : World} {s : ByteArray} (nf : Num) (hs : s.size ≤ 1048576) (ht1 : TabAt w w.heap.size 0 wordL) (ht2 : TabAt w w.heap.size 1 signL)
    (hnf : ∀ a e t, nf a = .ok (e, t) → a < e ∧ e ≤ s.size)
    (HN : ∀ B a l, w.heap.size ≤ B → a < s.size → l.length < 131072 → isDig (byt s a) = true → ∀ w', Below w.heap.size w w' → Sc w' B s a a l → TabAt w' B 0 wordL → Calls Tryd.prog 40 #[.pointer (some ⟨B, 0, none⟩)] w' (OutP w' B s a (numOut nf a l))) :
    Calls Tryd.prog 6 #[.string s] w (LexP w (scan nf s (s.size + 1) 0 [])) := by
  have hmf : ∀ (fn : Fn) (first cap : Array Value) (w : World), (Instr.makeFunc fn first cap).run Tryd.prog w = .ok (.func fn first cap) w := fun _ _ _ _ => rfl
  have hsi : ¬ (1048576 : Int) < s.size := by omega
  have HT1 := Lib.hid ht1
  have HT2 := Lib.hid ht2
  have HNN := Lib.hid HN
  have HNF := Lib.hid hnf
  clear ht1 ht2 HN hnf
  obtain ⟨R, hR⟩ : ∃ R, scan nf s (s.size + 1) 0 [] = R := ⟨_, rfl⟩
  rw [hR]
  have HR := Lib.hid hR
  clear hR
  go_enter_defers Tryd.func6, Tryd.ntmps6
  have S0 : Sc ((((w.alloc (.cells #[.slice none 0 0] 23)).alloc (.cells #[.int .i64 0] 24)).alloc (.cells #[.int .i64 0] 3)).alloc (.cells #[.string s, .int .i64 0, .int .i64 0, .slice none 0 0] 49)) (w.heap.size + 1 + 1 + 1) s 0 0 [] := by
    have h := heap_alloc_new (((w.alloc (.cells #[.slice none 0 0] 23)).alloc (.cells #[.int .i64 0] 24)).alloc (.cells #[.int .i64 0] 3)) (.cells #[.string s, .int .i64 0, .int .i64 0, .slice none 0 0] 49)
    simp only [World.size_alloc] at h
    exact ⟨.slice none 0 0, h, World.ownsRow_nil _ _ _ _⟩
  have b4 : Below w.heap.size w ((((w.alloc (.cells #[.slice none 0 0] 23)).alloc (.cells #[.int .i64 0] 24)).alloc (.cells #[.int .i64 0] 3)).alloc (.cells #[.string s, .int .i64 0, .int .i64 0, .slice none 0 0] 49)) := by
    repeat (first | exact Below.refl _ _ | refine Below.alloc ?_ (by simp <;> omega) _)
  have c2 : ((((w.alloc (.cells #[.slice none 0 0] 23)).alloc (.cells #[.int .i64 0] 24)).alloc (.cells #[.int .i64 0] 3)).alloc (.cells #[.string s, .int .i64 0, .int .i64 0, .slice none 0 0] 49)).cell? ⟨w.heap.size, 0, none⟩ = some (.slice none 0 0) := by go_simp
  have c3 : ((((w.alloc (.cells #[.slice none 0 0] 23)).alloc (.cells #[.int .i64 0] 24)).alloc (.cells #[.int .i64 0] 3)).alloc (.cells #[.string s, .int .i64 0, .int .i64 0, .slice none 0 0] 49)).cell? ⟨w.heap.size + 1, 0, none⟩ = some (.int .i64 0) := by go_simp
  have c4 : ((((w.alloc (.cells #[.slice none 0 0] 23)).alloc (.cells #[.int .i64 0] 24)).alloc (.cells #[.int .i64 0] 3)).alloc (.cells #[.string s, .int .i64 0, .int .i64 0, .slice none 0 0] 49)).cell? ⟨w.heap.size + 1 + 1, 0, none⟩ = some (.int .i64 0) := by go_simp
  have d2 : ((((w.alloc (.cells #[.slice none 0 0] 23)).alloc (.cells #[.int .i64 0] 24)).alloc (.cells #[.int .i64 0] 3)).alloc (.cells #[.string s, .int .i64 0, .int .i64 0, .slice none 0 0] 49)).frozen? ⟨w.heap.size, 0, none⟩ = false := by go_simp
  have d3 : ((((w.alloc (.cells #[.slice none 0 0] 23)).alloc (.cells #[.int .i64 0] 24)).alloc (.cells #[.int .i64 0] 3)).alloc (.cells #[.string s, .int .i64 0, .int .i64 0, .slice none 0 0] 49)).frozen? ⟨w.heap.size + 1, 0, none⟩ = false := by go_simp
  have d4 : ((((w.alloc (.cells #[.slice none 0 0] 23)).alloc (.cells #[.int .i64 0] 24)).alloc (.cells #[.int .i64 0] 3)).alloc (.cells #[.string s, .int .i64 0, .int .i64 0, .slice none 0 0] 49)).frozen? ⟨w.heap.size + 1 + 1, 0, none⟩ = false := by go_simp
  have hz4 : ((((w.alloc (.cells #[.slice none 0 0] 23)).alloc (.cells #[.int .i64 0] 24)).alloc (.cells #[.int .i64 0] 3)).alloc (.cells #[.string s, .int .i64 0, .int .i64 0, .slice none 0 0] 49)).heap.size = w.heap.size + 1 + 1 + 1 + 1 := by simp
  go_wp2_with fail
  generalize ((((w.alloc (.cells #[.slice none 0 0] 23)).alloc (.cells #[.int .i64 0] 24)).alloc (.cells #[.int .i64 0] 3)).alloc (.cells #[.string s, .int .i64 0, .int .i64 0, .slice none 0 0] 49)) = W4 at *
  have RA := Lib.hid (readAll_any nf S0 (by omega) ((HT1.out.kept b4 (Nat.le_refl _)).mono (by omega)) ((HT2.out.kept b4 (Nat.le_refl _)).mono (by omega)) HNF.out (fun a l h1 h2 h3 w' h0 h4 h5 => HNN.out _ a l (by omega) h1 h2 h3 w' (b4.trans (h0.mono (by omega))) h4 h5))
  rw [HR.out] at RA
  refine RA.out.mono ?_
  intro r w5 hO
  cases R with
  | error p =>
    obtain ⟨e, i⟩ := p
    obtain ⟨rfl, hb5⟩ := hO
    have e2 := (hb5.cell (p := ⟨w.heap.size, 0, none⟩) (by first | omega | (simp; omega))).trans c2
    have e3 := (hb5.cell (p := ⟨w.heap.size + 1, 0, none⟩) (by first | omega | (simp; done) | (simp; omega))).trans c3
    have e4 := (hb5.cell (p := ⟨w.heap.size + 1 + 1, 0, none⟩) (by first | omega | simp)).trans c4
    have g2 := (hb5.frozen (p := ⟨w.heap.size, 0, none⟩) (by first | omega | (simp; omega))).trans d2
    have g3 := (hb5.frozen (p := ⟨w.heap.size + 1, 0, none⟩) (by first | omega | (simp; done) | (simp; omega))).trans d3
    have g4 := (hb5.frozen (p := ⟨w.heap.size + 1 + 1, 0, none⟩) (by first | omega | simp)).trans d4
    have hz5 := hb5.size
    have HB5 := Lib.hid (b4.trans (hb5.mono (by omega)))
    clear hb5 b4 c2 c3 c4 d2 d3 d4 S0 RA
    go_wp2_with fail
    refine leaves_cons (f := 12) (args := #[.pointer (some ⟨w.heap.size, 0, none⟩), .pointer (some ⟨w.heap.size + 1, 0, none⟩), .pointer (some ⟨w.heap.size + 1 + 1, 0, none⟩)]) (by simp) (by simp [go_sem]) ?_
    refine (catch_panicking w.heap.size (w.heap.size + 1) (w.heap.size + 1 + 1) e i _ _ _ w5 e2 e3 e4 g2 g3 g4 (by omega) (by omega) (by omega) []).mono ?_
    rintro r u' w6 ⟨rfl, rfl, r2, r3, r4, hb6⟩
    have HB6 := Lib.hid (HB5.out.trans hb6)
    simp [Leaves, settle, results, Tryd.results6, go_sem, r2, r3, r4]
    exact ⟨HB6.out, rfl⟩
  | ok l =>
    obtain ⟨rfl, hb5, a5, st5, hs5⟩ := hO
    obtain ⟨v, hp, ho⟩ := hs5
    have h3 : w5.cell? ⟨w.heap.size + 1 + 1 + 1, 3, none⟩ = some v := cells_get hp
    have e2 := (hb5.cell (p := ⟨w.heap.size, 0, none⟩) (by first | omega | (simp; omega))).trans c2
    have e3 := (hb5.cell (p := ⟨w.heap.size + 1, 0, none⟩) (by first | omega | (simp; done) | (simp; omega))).trans c3
    have e4 := (hb5.cell (p := ⟨w.heap.size + 1 + 1, 0, none⟩) (by first | omega | simp)).trans c4
    have g2 := (hb5.frozen (p := ⟨w.heap.size, 0, none⟩) (by first | omega | (simp; omega))).trans d2
    have g3 := (hb5.frozen (p := ⟨w.heap.size + 1, 0, none⟩) (by first | omega | (simp; done) | (simp; omega))).trans d3
    have g4 := (hb5.frozen (p := ⟨w.heap.size + 1 + 1, 0, none⟩) (by first | omega | simp)).trans d4
    have hz5 := hb5.size
    have HB5 := Lib.hid (b4.trans (hb5.mono (by omega)))
    have HO := Lib.hid ho
    have hv1 : v = .slice none 0 0 ∨ ∃ g c, v = .slice (some ⟨g, 0, none⟩) l.length c := by
      rcases ho.2 with ⟨h1, _⟩ | ⟨g, cap, cur, h1, _⟩
      · exact .inl h1
      · exact .inr ⟨g, cap, h1⟩
    have fin : ∀ (u2 u3 u4 : Value) (w6 w7 : World), Below w5.heap.size (((w5.setCell ⟨w.heap.size, 0, none⟩ u2).setCell ⟨w.heap.size + 1, 0, none⟩ u3).setCell ⟨w.heap.size + 1 + 1, 0, none⟩ u4) w7 →
        Below w.heap.size w w7 ∧ w7.ownsRow w.heap.size 37 7 v l.length (cellsOf l) := by
      intro u2 u3 u4 w6 w7 hb
      have hlt : ∀ k, v.ownBlock = some k → w.heap.size + 1 + 1 + 1 + 1 ≤ k := fun k hk => (HO.out.lt k hk).1
      have o3 : (((w5.setCell ⟨w.heap.size, 0, none⟩ u2).setCell ⟨w.heap.size + 1, 0, none⟩ u3).setCell ⟨w.heap.size + 1 + 1, 0, none⟩ u4).ownsRow (w.heap.size + 1 + 1 + 1 + 1) 37 7 v l.length (cellsOf l) := by
        refine ownsRow_setCell_other (ownsRow_setCell_other (ownsRow_setCell_other HO.out ?_ _) ?_ _) ?_ _
        all_goals (intro e; have := hlt _ e; simp at this; omega)
      have hg : World.grownBy (((w5.setCell ⟨w.heap.size, 0, none⟩ u2).setCell ⟨w.heap.size + 1, 0, none⟩ u3).setCell ⟨w.heap.size + 1 + 1, 0, none⟩ u4) w7 none :=
        ⟨hb.os, hb.tape, hb.output, hb.size, fun k hk _ => hb.block k (by simpa using hk)⟩
      refine ⟨?_, ownsRow_base (o3.kept hg (by cases v.ownBlock <;> simp)) (by omega)⟩
      exact (((HB5.out.setCell (p := ⟨w.heap.size, 0, none⟩) (Nat.le_refl _) u2).setCell (p := ⟨w.heap.size + 1, 0, none⟩) (by first | omega | (simp; done) | (simp; omega)) u3).setCell (p := ⟨w.heap.size + 1 + 1, 0, none⟩) (by first | omega | (simp; done) | (simp; omega)) u4).trans (hb.mono (by omega))
    have FIN := Lib.hid fin
    clear fin hb5 b4 c2 c3 c4 d2 d3 d4 S0 RA hp ho
    rcases hv1 with rfl | ⟨g, c, rfl⟩
    · go_wp2_with fail
      refine leaves_cons (f := 12) (args := #[.pointer (some ⟨w.heap.size, 0, none⟩), .pointer (some ⟨w.heap.size + 1, 0, none⟩), .pointer (some ⟨w.heap.size + 1 + 1, 0, none⟩)]) (by simp) (by simp [go_sem]) ?_
      refine (catch_idle w.heap.size (w.heap.size + 1) (w.heap.size + 1 + 1) _).mono ?_
      rintro r u' w6 ⟨rfl, rfl, hb6⟩
      have r2 : w6.cell? ⟨w.heap.size, 0, none⟩ = some (.slice none 0 0) := carry hb6 (by go_simp)
      have r3 : w6.cell? ⟨w.heap.size + 1, 0, none⟩ = some (.int .i64 0) := carry hb6 (by go_simp)
      have r4 : w6.cell? ⟨w.heap.size + 1 + 1, 0, none⟩ = some (.int .i64 0) := carry hb6 (by go_simp)
      have F := FIN.out _ _ _ w5 w6 (hb6.mono (by simp))
      simp [Leaves, settle, results, Tryd.results6, go_sem, r2, r3, r4]
      exact ⟨F.1, _, rfl, F.2⟩
    · go_wp2_with fail
      refine leaves_cons (f := 12) (args := #[.pointer (some ⟨w.heap.size, 0, none⟩), .pointer (some ⟨w.heap.size + 1, 0, none⟩), .pointer (some ⟨w.heap.size + 1 + 1, 0, none⟩)]) (by simp) (by simp [go_sem]) ?_
      refine (catch_idle w.heap.size (w.heap.size + 1) (w.heap.size + 1 + 1) _).mono ?_
      rintro r u' w6 ⟨rfl, rfl, hb6⟩
      have r2 : w6.cell? ⟨w.heap.size, 0, none⟩ = some (.slice (some ⟨g, 0, none⟩) l.length c) := carry hb6 (by go_simp)
      have r3 : w6.cell? ⟨w.heap.size + 1, 0, none⟩ = some (.int .i64 0) := carry hb6 (by go_simp)
      have r4 : w6.cell? ⟨w.heap.size + 1 + 1, 0, none⟩ = some (.int .i64 0) := carry hb6 (by go_simp)
      have F := FIN.out _ _ _ w5 w6 (hb6.mono (by simp))
      simp [Leaves, settle, results, Tryd.results6, go_sem, r2, r3, r4]
      exact ⟨F.1, _, rfl, F.2⟩

end Go.Proofs.YtnmifeiokhpcfaaDoor
