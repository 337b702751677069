/-
  PACKAGE real, decimal digits: the iterator over the chunks.
-/
import Derived.Test.YtbfknapmhkpgcaaGreatDoorDig0
import Derived.Test.YtbfknapmhkpgcaaGreatDoorSeqD

namespace Go.Proofs.YtbfknapmhkpgcaaGreatDoor
open Go.RowKit Go.Shelf
set_option linter.unusedVariables false
attribute [local go_sem] Oper.semAt_some

abbrev encC (c : Nat) : Array Value := #[.int .u64 (c : Int)]

/-- what a round keeps for the iterators over digits: the arrays, the box of a loop's function, the records from Bo on, the table of powers -/
structure KeD (Bo : Nat) (A B : World) : Prop where
  size : A.heap.size ≤ B.heap.size
  same : ∀ (k : Nat) (cur : Array Value) (T : TypeId) (fr : Nat × Nat), (T = 94 ∨ T = 158 ∨ T = 136) → A.heap[k]? = some (Obj.cells cur T fr) → B.heap[k]? = some (Obj.cells cur T fr)
  recs : ∀ (k : Nat) (o : Obj), Bo ≤ k → A.heap[k]? = some o → o.isCells = false → B.heap[k]? = some o
  tab : P10 A → P10 B

theorem KeD.refl (Bo : Nat) (A : World) : KeD Bo A A := ⟨Nat.le_refl _, fun _ _ _ _ _ h => h, fun _ _ _ h _ => h, fun h => h⟩

theorem KeD.trans {Bo : Nat} {A B C : World} (h : KeD Bo A B) (k : KeD Bo B C) : KeD Bo A C :=
  ⟨Nat.le_trans h.size k.size, fun i cur T fr hT ho => k.same i cur T fr hT (h.same i cur T fr hT ho), fun i o hi ho hc => k.recs i o hi (h.recs i o hi ho hc) hc, fun p => k.tab (h.tab p)⟩

theorem KeD.mono {Bo Bn : Nat} {A B : World} (h : KeD Bo A B) (hb : Bo ≤ Bn) : KeD Bn A B := ⟨h.size, h.same, fun i o hi => h.recs i o (Nat.le_trans hb hi), h.tab⟩

theorem KeD.of_below {Bo : Nat} {A B : World} (h : Below A.heap.size A B) : KeD Bo A B :=
  ⟨h.size, fun i cur T fr _ ho => (h.block i (Array.getElem?_eq_some_iff.1 ho).1).trans ho, fun i o _ ho _ => (h.block i (Array.getElem?_eq_some_iff.1 ho).1).trans ho, fun p => p.kept h (Nat.le_refl _)⟩

theorem KeD.keeps {Bo N : Nat} {A B : World} (h : KeD Bo A B) (hb : Bo ≤ N) : KeepsFrom N A B := ⟨h.size, fun k o hk ho hc => h.recs k o (Nat.le_trans hb hk) ho hc⟩

/-- a record's turn -/
theorem KeD.put (W : World) (k : Nat) (o o' : Obj) (ho : W.heap[k]? = some o) (hc : o.isCells = false) (hk : 0 < k) : KeD (k + 1) W (W.putObj k o') :=
  ⟨by simp, fun i cur T fr _ hi => by
    by_cases e : i = k
    · subst e; rw [ho] at hi; cases hi; cases hc
    · exact (World.putObj_heap_other e).trans hi, fun i o2 hi h2 _ => (World.putObj_heap_other (by omega)).trans h2, fun p => by
    refine ⟨fun i hi => ?_, by simpa using p.2⟩
    rw [← p.1 i hi]
    exact World.cell?_of_block (w := W) (World.putObj_heap_other (by show 0 ≠ k; omega))⟩

theorem grown_refl0 (A : World) : A.grownBy A none := ⟨rfl, rfl, rfl, Nat.le_refl _, fun _ _ _ => rfl⟩

theorem grown_below {A B : World} (h : Below A.heap.size A B) : A.grownBy B none := ⟨h.os, h.tape, h.output, h.size, fun k hk _ => h.block k hk⟩

theorem grown_only {A B : World} {b : Nat} (h : Only b A B) : A.grownBy B (some b) := ⟨h.os, h.tape, h.output, Nat.le_of_eq h.size.symm, fun k _ hk => h.block k (fun e => hk (by rw [e]))⟩

theorem only_drew_l {b : Nat} {A B : World} (h : Only b A.drew B) : Only b A B := ⟨h.os, h.tape, h.output, h.size, h.block, h.frozen, h.ty⟩

theorem P10.only {w w' : World} {b : Nat} (h : P10 w) (k : Only b w w') (hb : b ≠ 0) : P10 w' :=
  ⟨fun i hi => (k.cell (p := ⟨0, i, none⟩) (fun e => hb e.symm)).trans (h.1 i hi), by rw [k.size]; exact h.2⟩

/-- what chunks$1 holds: the rest in block R, the whole part's chunks in block R + 1 -/
structure CSt (R X Q a b c : Nat) (wr : World) : Prop where
  lo : Dig wr R 0 3 X
  hi : Dig wr R 3 4 Q
  w0 : wr.cell? ⟨R + 1, 0, none⟩ = some (.int .u64 (a : Int))
  w1 : wr.cell? ⟨R + 1, 1, none⟩ = some (.int .u64 (b : Int))
  w2 : wr.cell? ⟨R + 1, 2, none⟩ = some (.int .u64 (c : Int))
  f0 : wr.frozen? ⟨R + 1, 0, none⟩ = false
  f1 : wr.frozen? ⟨R + 1, 1, none⟩ = false
  f2 : wr.frozen? ⟨R + 1, 2, none⟩ = false
  ty : ∃ cur, wr.heap[R]? = some (.cells cur 94 (0, 0))
  tz : ∃ cur, wr.heap[R + 1]? = some (.cells cur 158 (0, 0))

theorem CSt.drew {R X Q a b c : Nat} {wr : World} (h : CSt R X Q a b c wr) : CSt R X Q a b c wr.drew :=
  ⟨fun i hi => by simpa using h.lo i hi, fun i hi => by simpa using h.hi i hi, by simpa using h.w0, by simpa using h.w1, by simpa using h.w2, by simpa using h.f0, by simpa using h.f1, by simpa using h.f2, h.ty, h.tz⟩

theorem CSt.z {R X Q a b c : Nat} {wr : World} (h : CSt R X Q a b c wr) : R + 1 < wr.heap.size := (Array.getElem?_eq_some_iff.1 h.tz.choose_spec).1

theorem dig_other {b o n V : Nat} {w w' : World} (h : Dig w b o n V) (hc : ∀ i, i < n → w'.cell? ⟨b, o + i, none⟩ = w.cell? ⟨b, o + i, none⟩) (hf : ∀ i, i < n → w'.frozen? ⟨b, o + i, none⟩ = w.frozen? ⟨b, o + i, none⟩) : Dig w' b o n V :=
  fun i hi => ⟨(hc i hi).trans (h i hi).1, (hf i hi).trans (h i hi).2⟩

theorem CSt.div {R X Q Q' a b c : Nat} {wr w' : World} (h : CSt R X Q a b c wr) (k : OnlyR R 3 4 wr w') (d : Dig w' R 3 4 Q') : CSt R X Q' a b c w' :=
  ⟨dig_other h.lo (fun i hi => k.rest _ (Or.inl (by omega))) (fun i _ => k.frozen _), d, (k.toOnly.cell (p := ⟨R + 1, 0, none⟩) (by simp)).trans h.w0, (k.toOnly.cell (p := ⟨R + 1, 1, none⟩) (by simp)).trans h.w1, (k.toOnly.cell (p := ⟨R + 1, 2, none⟩) (by simp)).trans h.w2,
   (k.toOnly.froz (p := ⟨R + 1, 0, none⟩) (by simp)).trans h.f0, (k.toOnly.froz (p := ⟨R + 1, 1, none⟩) (by simp)).trans h.f1, (k.toOnly.froz (p := ⟨R + 1, 2, none⟩) (by simp)).trans h.f2,
   by obtain ⟨cur, hc⟩ := h.ty; exact k.ty cur _ _ hc, by obtain ⟨cur, hc⟩ := h.tz; exact ⟨cur, (k.block _ (by omega)).trans hc⟩⟩

theorem CSt.mul {R X X' Q a b c : Nat} {wr w' : World} (h : CSt R X Q a b c wr) (k : OnlyR R 0 3 wr w') (d : Dig w' R 0 3 X') : CSt R X' Q a b c w' :=
  ⟨d, dig_other h.hi (fun i hi => k.rest _ (Or.inr (by omega))) (fun i _ => k.frozen _), (k.toOnly.cell (p := ⟨R + 1, 0, none⟩) (by simp)).trans h.w0, (k.toOnly.cell (p := ⟨R + 1, 1, none⟩) (by simp)).trans h.w1, (k.toOnly.cell (p := ⟨R + 1, 2, none⟩) (by simp)).trans h.w2,
   (k.toOnly.froz (p := ⟨R + 1, 0, none⟩) (by simp)).trans h.f0, (k.toOnly.froz (p := ⟨R + 1, 1, none⟩) (by simp)).trans h.f1, (k.toOnly.froz (p := ⟨R + 1, 2, none⟩) (by simp)).trans h.f2,
   by obtain ⟨cur, hc⟩ := h.ty; exact k.ty cur _ _ hc, by obtain ⟨cur, hc⟩ := h.tz; exact ⟨cur, (k.block _ (by omega)).trans hc⟩⟩

theorem CSt.same {R X Q a b c : Nat} {wr w' : World} (h : CSt R X Q a b c wr) (hr : w'.heap[R]? = wr.heap[R]?) (hz : w'.heap[R + 1]? = wr.heap[R + 1]?) : CSt R X Q a b c w' :=
  have c1 : ∀ i, w'.cell? ⟨R, i, none⟩ = wr.cell? ⟨R, i, none⟩ := fun i => World.cell?_of_block (w := wr) hr
  have c2 : ∀ i, w'.cell? ⟨R + 1, i, none⟩ = wr.cell? ⟨R + 1, i, none⟩ := fun i => World.cell?_of_block (w := wr) hz
  have d1 : ∀ i, w'.frozen? ⟨R, i, none⟩ = wr.frozen? ⟨R, i, none⟩ := fun i => World.frozen?_of_block (w := wr) hr
  have d2 : ∀ i, w'.frozen? ⟨R + 1, i, none⟩ = wr.frozen? ⟨R + 1, i, none⟩ := fun i => World.frozen?_of_block (w := wr) hz
  ⟨dig_other h.lo (fun _ _ => c1 _) (fun _ _ => d1 _), dig_other h.hi (fun _ _ => c1 _) (fun _ _ => d1 _), (c2 _).trans h.w0, (c2 _).trans h.w1, (c2 _).trans h.w2, (d2 _).trans h.f0, (d2 _).trans h.f1, (d2 _).trans h.f2,
   by obtain ⟨cur, hc⟩ := h.ty; exact ⟨cur, hr.trans hc⟩, by obtain ⟨cur, hc⟩ := h.tz; exact ⟨cur, hz.trans hc⟩⟩

theorem CSt.ked {Bo R X Q a b c : Nat} {wr w' : World} (h : CSt R X Q a b c wr) (k : KeD Bo wr w') : CSt R X Q a b c w' := by
  obtain ⟨cur, hc⟩ := h.ty
  obtain ⟨cuz, hz⟩ := h.tz
  exact h.same ((k.same _ _ _ _ (.inl rfl) hc).trans hc.symm) ((k.same _ _ _ _ (.inr (.inl rfl)) hz).trans hz.symm)

theorem CSt.set {R X Q a b c a' b' c' i v : Nat} {wr : World} (h : CSt R X Q a b c wr) (hi : (i = 0 ∧ a' = v ∧ b' = b ∧ c' = c) ∨ (i = 1 ∧ a' = a ∧ b' = v ∧ c' = c) ∨ (i = 2 ∧ a' = a ∧ b' = b ∧ c' = v)) : CSt R X Q a' b' c' (wr.setCell ⟨R + 1, i, none⟩ (.int .u64 (v : Int))) := by
  have hb : ∀ k, k ≠ R + 1 → (wr.setCell ⟨R + 1, i, none⟩ (.int .u64 (v : Int))).heap[k]? = wr.heap[k]? := fun k hk => Below.heap_setCell _ _ _ _ hk
  have c1 : ∀ i', (wr.setCell ⟨R + 1, i, none⟩ (.int .u64 (v : Int))).cell? ⟨R, i', none⟩ = wr.cell? ⟨R, i', none⟩ := fun i' => World.cell?_of_block (w := wr) (hb R (by omega))
  have hf : ∀ p, (wr.setCell ⟨R + 1, i, none⟩ (.int .u64 (v : Int))).frozen? p = wr.frozen? p := fun p => World.frozen?_setCell _ _ _ _
  have ho : ∀ j, j ≠ i → (wr.setCell ⟨R + 1, i, none⟩ (.int .u64 (v : Int))).cell? ⟨R + 1, j, none⟩ = wr.cell? ⟨R + 1, j, none⟩ := fun j hj => World.cell?_setCell_other _ _ _ _ (by intro q; have := congrArg Addr.off q; simp at this; omega)
  have lo := dig_other h.lo (w' := (wr.setCell ⟨R + 1, i, none⟩ (.int .u64 (v : Int)))) (fun _ _ => c1 _) (fun _ _ => hf _)
  have hi2 := dig_other h.hi (w' := (wr.setCell ⟨R + 1, i, none⟩ (.int .u64 (v : Int)))) (fun _ _ => c1 _) (fun _ _ => hf _)
  have ty : ∃ cur, (wr.setCell ⟨R + 1, i, none⟩ (.int .u64 (v : Int))).heap[R]? = some (.cells cur 94 (0, 0)) := by obtain ⟨cur, hc⟩ := h.ty; exact ⟨cur, (hb R (by omega)).trans hc⟩
  have tz : ∃ cur, (wr.setCell ⟨R + 1, i, none⟩ (.int .u64 (v : Int))).heap[R + 1]? = some (.cells cur 158 (0, 0)) := by obtain ⟨cur, hc⟩ := h.tz; exact ty_setCell _ hc
  rcases hi with ⟨rfl, rfl, rfl, rfl⟩ | ⟨rfl, rfl, rfl, rfl⟩ | ⟨rfl, rfl, rfl, rfl⟩
  · exact ⟨lo, hi2, World.cell?_setCell_same' _ _ _ (by rw [h.w0]; rfl), (ho 1 (by omega)).trans h.w1, (ho 2 (by omega)).trans h.w2, (hf _).trans h.f0, (hf _).trans h.f1, (hf _).trans h.f2, ty, tz⟩
  · exact ⟨lo, hi2, (ho 0 (by omega)).trans h.w0, World.cell?_setCell_same' _ _ _ (by rw [h.w1]; rfl), (ho 2 (by omega)).trans h.w2, (hf _).trans h.f0, (hf _).trans h.f1, (hf _).trans h.f2, ty, tz⟩
  · exact ⟨lo, hi2, (ho 0 (by omega)).trans h.w0, (ho 1 (by omega)).trans h.w1, World.cell?_setCell_same' _ _ _ (by rw [h.w2]; rfl), (hf _).trans h.f0, (hf _).trans h.f1, (hf _).trans h.f2, ty, tz⟩

theorem dg_add (V k i : Nat) : dg V (k + i) = dg (V / BB ^ k) i := by unfold dg; rw [Nat.pow_add, Nat.div_div_eq_div_mul]

theorem CSt.start (W : World) (V : Nat) : CSt W.heap.size V (V / BB ^ 3) 0 0 0 ((W.alloc (Obj.cells (digC V) 94)).alloc (Obj.cells #[.int .u64 0, .int .u64 0, .int .u64 0] 158)) := by
  have hd : Dig ((W.alloc (Obj.cells (digC V) 94)).alloc (Obj.cells #[.int .u64 0, .int .u64 0, .int .u64 0] 158)) W.heap.size 0 7 V := (Dig.of_alloc W V _).kept (B := W.heap.size + 1) ((Below.refl _ _).alloc (by simp) _) (by omega)
  exact ⟨hd.sub (by decide), fun i hi => by have := hd (3 + i) (by omega); rw [Nat.zero_add, dg_add] at this; exact this, by go_simp, by go_simp, by go_simp, by go_simp, by go_simp, by go_simp,
    ⟨digC V, (Below.heap_alloc _ _ _ (by simp)).trans (World.alloc_heap_new W _)⟩, ⟨#[.int .u64 0, .int .u64 0, .int .u64 0], by have := World.alloc_heap_new (W.alloc (Obj.cells (digC V) 94)) (.cells #[.int .u64 0, .int .u64 0, .int .u64 0] 158); rwa [World.size_alloc] at this⟩⟩

/-- the fraction that block R holds -/
def digOf (R : Nat) (w : World) : Nat :=
  let g := fun i => match w.cell? ⟨R, i, none⟩ with | some (.int _ x) => x.toNat | _ => 0
  g 0 + BB * g 1 + BB ^ 2 * g 2

theorem digOf_is {R X : Nat} {w : World} (h : Dig w R 0 3 X) : digOf R w = X % BB ^ 3 := by
  have h0 := (h 0 (by decide)).1
  have h1 := (h 1 (by decide)).1
  have h2 := (h 2 (by decide)).1
  simp only [Nat.zero_add] at h0 h1 h2
  rw [mod_succ, mod_succ, mod_succ]
  simp only [digOf, h0, h1, h2, Int.toNat_natCast, Nat.pow_zero, Nat.mod_one, Nat.zero_add, Nat.one_mul, Nat.pow_one]

theorem frC_fuel {m n F : Nat} (h : frOk m F = true) (hmn : m ≤ n) : frC n F = frC m F := by
  induction m generalizing n F with
  | zero =>
    have hF : F = 0 := by simpa [frOk] using h
    subst hF
    cases n <;> rfl
  | succ m ih =>
    obtain ⟨n', rfl⟩ : ∃ n', n = n' + 1 := ⟨n - 1, by omega⟩
    unfold frC
    by_cases hF : F = 0
    · rw [if_pos hF, if_pos hF]
    · rw [if_neg hF, if_neg hF]
      unfold frOk at h
      have : frOk m (F * 10 ^ 19 % BB ^ 3) = true := by
        rcases Bool.or_eq_true _ _ ▸ h with q | q
        · exact absurd (by simpa using q) hF
        · exact q
      rw [ih this (by omega)]

theorem frOk_step {m F : Nat} (h : frOk m F = true) (hF : F ≠ 0) : ∃ m', m = m' + 1 ∧ frOk m' (F * 10 ^ 19 % BB ^ 3) = true ∧ frC m F = F * 10 ^ 19 / BB ^ 3 :: frC m' (F * 10 ^ 19 % BB ^ 3) := by
  cases m with
  | zero => exact absurd (by simpa [frOk] using h) hF
  | succ m' =>
    refine ⟨m', rfl, ?_, by show (if F = 0 then [] else _) = _; rw [if_neg hF]⟩
    unfold frOk at h
    rcases Bool.or_eq_true _ _ ▸ h with q | q
    · exact absurd (by simpa using q) hF
    · exact q

theorem frC_zero (m : Nat) : frC m 0 = [] := by cases m <;> rfl

set_option maxRecDepth 100000 in
set_option maxHeartbeats 4000000 in
theorem chunks1_D (n : Nat) (hn : 1 ≤ n) (Bo B V : Nat) (w : World) (hV : V < BB ^ 7) (hok : frOk 9 (V % BB ^ 3) = true) (hB : w.heap[B]? = some (.cells (digC V) 94 (0, 0))) (hT : P10 w) (HDiv : Hid (∀ s, s ≤ 19 → DivOk (10 ^ s))) :
    SeqD Bo 94 Fence.wide n Tryz.prog 145 #[.pointer (some ⟨B, 0, none⟩)] encC (KeD Bo) (chV V) w := by
  intro l J W hW hBo hJ hY h0
  have BX := Lib.hid ((hW.block B (Array.getElem?_eq_some_iff.1 hB).1).trans hB : W.heap[B]? = some (.cells (digC V) 94 (0, 0)))
  have hBl : B < W.heap.size := (Array.getElem?_eq_some_iff.1 BX.out).1
  have b0 : W.cell? ⟨B, 0, none⟩ = some (.int .u64 (dg V 0 : Int)) := by simp [World.cell?, BX.out]
  have b1 : W.cell? ⟨B, 1, none⟩ = some (.int .u64 (dg V 1 : Int)) := by simp [World.cell?, BX.out]
  have b2 : W.cell? ⟨B, 2, none⟩ = some (.int .u64 (dg V 2 : Int)) := by simp [World.cell?, BX.out]
  have b3 : W.cell? ⟨B, 3, none⟩ = some (.int .u64 (dg V 3 : Int)) := by simp [World.cell?, BX.out]
  have b4 : W.cell? ⟨B, 4, none⟩ = some (.int .u64 (dg V 4 : Int)) := by simp [World.cell?, BX.out]
  have b5 : W.cell? ⟨B, 5, none⟩ = some (.int .u64 (dg V 5 : Int)) := by simp [World.cell?, BX.out]
  have b6 : W.cell? ⟨B, 6, none⟩ = some (.int .u64 (dg V 6 : Int)) := by simp [World.cell?, BX.out]
  have HT := Lib.hid (hT.kept hW (Nat.le_refl _))
  have HJ := Lib.hid hJ
  have HY := Lib.hid hY
  have H0 := Lib.hid h0
  have HOK := Lib.hid hok
  have HV := Lib.hid hV
  clear hB hT hJ hY h0 hok hV hW
  have hw2 : IntKind.i64.wrap 2 = 2 := by decide
  have hw1 : IntKind.i64.wrap 1 = 1 := by decide
  have hw0 : IntKind.i64.wrap 0 = 0 := by decide
  have ix0 : ∀ (x y z : Int) (w : World), (Instr.index 158 (.agg #[.int .u64 x, .int .u64 y, .int .u64 z]) (.int .i64 0)).run Tryz.prog w = .ok (.int .u64 x) w := fun _ _ _ _ => by kernel_rfl
  have ix1 : ∀ (x y z : Int) (w : World), (Instr.index 158 (.agg #[.int .u64 x, .int .u64 y, .int .u64 z]) (.int .i64 1)).run Tryz.prog w = .ok (.int .u64 y) w := fun _ _ _ _ => by kernel_rfl
  have ix2 : ∀ (x y z : Int) (w : World), (Instr.index 158 (.agg #[.int .u64 x, .int .u64 y, .int .u64 z]) (.int .i64 2)).run Tryz.prog w = .ok (.int .u64 z) w := fun _ _ _ _ => by kernel_rfl
  have HRP := Lib.hid (show W.heap.size ≠ 0 from by have := HT.out.2; omega)
  have mixed : Tryz.prog.follows .mixedOrders = true := by kernel_rfl
  obtain ⟨p, hp⟩ : ∃ p : Nat, p = 10 ^ 19 := ⟨_, rfl⟩
  have HPE := Lib.hid hp
  have HP0 := Lib.hid (show 0 < p from by rw [hp]; decide)
  have HPB := Lib.hid (show p < BB from by rw [hp]; decide)
  have HPD : Hid (DivOk p) := Lib.hid (by rw [hp]; exact HDiv.out 19 (by decide))
  obtain ⟨Q, hQ⟩ : ∃ Q, Q = V / BB ^ 3 := ⟨_, rfl⟩
  have HQ0 := Lib.hid (show Q < BB ^ 4 from by rw [hQ, Nat.div_lt_iff_lt_mul (bbpos 3), ← Nat.pow_add]; exact HV.out)
  obtain ⟨R, hR⟩ : ∃ R, W.heap.size = R := ⟨_, rfl⟩
  have HS0 := Lib.hid (CSt.start W V)
  have HB0 := Lib.hid (((Below.refl W.heap.size W).alloc (Nat.le_refl _) (Obj.cells (digC V) 94)).alloc (by simp) (Obj.cells #[.int .u64 0, .int .u64 0, .int .u64 0] 158))
  rw [← hQ] at HS0
  rw [hR] at HS0 HB0 HRP
  have HXS := Lib.hid (show chV V = Q / p / p % p :: Q / p % p :: Q % p :: frC 9 (V % BB ^ 3) from by rw [hp, hQ]; rfl)
  clear hp hQ
  obtain ⟨c, hc⟩ : ∃ c, c = Q % p := ⟨_, rfl⟩
  obtain ⟨b, hb⟩ : ∃ b, b = Q / p % p := ⟨_, rfl⟩
  obtain ⟨a, ha⟩ : ∃ a, a = Q / p / p % p := ⟨_, rfl⟩
  rw [← hc, ← hb, ← ha] at HXS
  have HMc := Lib.hid hc
  have HMb := Lib.hid hb
  have HMa := Lib.hid ha
  clear hc hb ha
  refine callsIn_of_wp Tryz.func145 rfl trivial ?_ rfl
  simp only [Tryz.ntmps145, List.size_toArray, List.length_cons, List.length_nil, Nat.reduceAdd, Nat.reduceSub, Array.replicate_succ, Array.replicate_zero, List.push_toArray, List.append_toArray, List.nil_append, List.cons_append]
  gi_wp2
  obtain ⟨X, hX⟩ : ∃ X, X = (W.alloc (Obj.cells (digC V) 94)).alloc (Obj.cells #[.int .u64 0, .int .u64 0, .int .u64 0] 158) := ⟨_, rfl⟩
  rw [← hX] at HS0 HB0 ⊢
  have HRZ := Lib.hid hR
  clear hX b0 b1 b2 b3 b4 b5 b6 hR
  refine wpIn_loop_rounds 4 ?_
  rw [roundsIn_succ]
  have g0 := (HT.out.kept (HRZ.out ▸ HB0.out) (Nat.le_refl _)).1 19 (by decide)
  rw [← HPE.out] at g0
  have y0 := HS0.out.w2
  have k0 := HS0.out.f2
  have z0 := HS0.out.z
  gi_wp2
  gi_region_with_o (refine ⟨trivial, ?_⟩; gi_at_call 108; refine (callsIn_wide.2 (div_any R 3 4 4 (Q) p _ (by decide) HQ0.out HP0.out HPB.out HS0.out.drew.hi HPD)).mono ?_; rw [← HMc.out]; rintro q w1 ⟨rfl, ho, hd⟩; have y := (HS0.out.drew.div ho hd).w2; have k := (HS0.out.drew.div ho hd).f2)
  have HS1 := Lib.hid ((HS0.out.drew.div ho hd).set (a' := 0) (b' := 0) (c' := c) (i := 2) (v := c) (by simp))
  have HB1 := Lib.hid ((ho.toOnly.below HB0.out.drew (Nat.le_refl _)).setCell (p := ⟨R + 1, 2, none⟩) (by simp) (.int .u64 (c : Int)))
  have HQ1 := Lib.hid (show Q / p < BB ^ 4 from Nat.lt_of_le_of_lt (Nat.div_le_self _ _) HQ0.out)
  obtain ⟨X1, hX⟩ : ∃ X, X = w1.setCell ⟨R + 1, 2, none⟩ (.int .u64 (c : Int)) := ⟨_, rfl⟩
  rw [← hX] at HS1 HB1 ⊢
  clear ho hd y k g0 y0 k0 z0 hX
  gi_wp2
  rw [roundsIn_succ]
  have g1 := (HT.out.kept (HRZ.out ▸ HB1.out) (Nat.le_refl _)).1 19 (by decide)
  rw [← HPE.out] at g1
  have y1 := HS1.out.w1
  have k1 := HS1.out.f1
  have z1 := HS1.out.z
  gi_wp2
  gi_region_with_o (refine ⟨trivial, ?_⟩; gi_at_call 108; refine (callsIn_wide.2 (div_any R 3 4 4 (Q / p) p _ (by decide) HQ1.out HP0.out HPB.out HS1.out.drew.hi HPD)).mono ?_; rw [← HMb.out]; rintro q w2 ⟨rfl, ho, hd⟩; have y := (HS1.out.drew.div ho hd).w1; have k := (HS1.out.drew.div ho hd).f1)
  have HS2 := Lib.hid ((HS1.out.drew.div ho hd).set (a' := 0) (b' := b) (c' := c) (i := 1) (v := b) (by simp))
  have HB2 := Lib.hid ((ho.toOnly.below HB1.out.drew (Nat.le_refl _)).setCell (p := ⟨R + 1, 1, none⟩) (by simp) (.int .u64 (b : Int)))
  have HQ2 := Lib.hid (show Q / p / p < BB ^ 4 from Nat.lt_of_le_of_lt (Nat.div_le_self _ _) HQ1.out)
  obtain ⟨X2, hX⟩ : ∃ X, X = w2.setCell ⟨R + 1, 1, none⟩ (.int .u64 (b : Int)) := ⟨_, rfl⟩
  rw [← hX] at HS2 HB2 ⊢
  clear ho hd y k g1 y1 k1 z1 hX
  gi_wp2
  rw [roundsIn_succ]
  have g2 := (HT.out.kept (HRZ.out ▸ HB2.out) (Nat.le_refl _)).1 19 (by decide)
  rw [← HPE.out] at g2
  have y2 := HS2.out.w0
  have k2 := HS2.out.f0
  have z2 := HS2.out.z
  gi_wp2
  gi_region_with_o (refine ⟨trivial, ?_⟩; gi_at_call 108; refine (callsIn_wide.2 (div_any R 3 4 4 (Q / p / p) p _ (by decide) HQ2.out HP0.out HPB.out HS2.out.drew.hi HPD)).mono ?_; rw [← HMa.out]; rintro q w3 ⟨rfl, ho, hd⟩; have y := (HS2.out.drew.div ho hd).w0; have k := (HS2.out.drew.div ho hd).f0)
  have HS3 := Lib.hid ((HS2.out.drew.div ho hd).set (a' := a) (b' := b) (c' := c) (i := 0) (v := a) (by simp))
  have HB3 := Lib.hid ((ho.toOnly.below HB2.out.drew (Nat.le_refl _)).setCell (p := ⟨R + 1, 0, none⟩) (by simp) (.int .u64 (a : Int)))
  have HQ3 := Lib.hid (show Q / p / p / p < BB ^ 4 from Nat.lt_of_le_of_lt (Nat.div_le_self _ _) HQ2.out)
  obtain ⟨X3, hX⟩ : ∃ X, X = w3.setCell ⟨R + 1, 0, none⟩ (.int .u64 (a : Int)) := ⟨_, rfl⟩
  rw [← hX] at HS3 HB3 ⊢
  clear ho hd y k g2 y2 k2 z2 hX
  gi_wp2
  rw [roundsIn_succ]
  have y0 := HS3.out.w0
  have y1 := HS3.out.w1
  have y2 := HS3.out.w2
  have HJ3 := Lib.hid (HJ.out [] W X3 H0.out ⟨none, grown_below (HRZ.out ▸ HB3.out), fun r e => by cases e⟩)
  have HT3 := Lib.hid (HT.out.kept (HRZ.out ▸ HB3.out) (Nat.le_refl _))
  obtain ⟨fr, hfr⟩ : ∃ fr, fr = frC 9 (V % BB ^ 3) := ⟨_, rfl⟩
  rw [← hfr] at HXS
  have HFR := Lib.hid hfr
  clear hfr
  gi_wp2
  refine wpIn_loop_rounds 4 ?_
  rw [roundsIn_succ]
  obtain ⟨fn, tmps, assign, body, hy, hR⟩ := HY.out [] a (b :: c :: fr) X3 HXS.out HJ3.out
  dsimp only [encC] at hy
  gi_wp2
  refine hR.mono ?_
  rintro e X4 ⟨rfl, hj, hk⟩
  have HS4 := Lib.hid (HS3.out.ked hk)
  have HJ4 := Lib.hid (show J [a] X4 from hj)
  have HT4 := Lib.hid (hk.tab HT3.out)
  clear hy hR hj hk y0 y1 y2
  gi_wp2
  rw [roundsIn_succ]
  obtain ⟨fn, tmps, assign, body, hy, hR⟩ := HY.out [a] b (c :: fr) X4 HXS.out HJ4.out
  dsimp only [encC] at hy
  gi_wp2
  refine hR.mono ?_
  rintro e X5 ⟨rfl, hj, hk⟩
  have HS5 := Lib.hid (HS4.out.ked hk)
  have HJ5 := Lib.hid (show J [a, b] X5 from hj)
  have HT5 := Lib.hid (hk.tab HT4.out)
  clear hy hR hj hk 
  gi_wp2
  rw [roundsIn_succ]
  obtain ⟨fn, tmps, assign, body, hy, hR⟩ := HY.out [a, b] c (fr) X5 HXS.out HJ5.out
  dsimp only [encC] at hy
  gi_wp2
  refine hR.mono ?_
  rintro e X6 ⟨rfl, hj, hk⟩
  have HS6 := Lib.hid (HS5.out.ked hk)
  have HJ6 := Lib.hid (show J [a, b, c] X6 from hj)
  have HT6 := Lib.hid (hk.tab HT5.out)
  clear hy hR hj hk 
  gi_wp2
  rw [roundsIn_succ]
  gi_wp2
  gi_loopw [] (fun wr => ∃ (m Z : Nat) (pre rest : List Nat), frOk m (Z % BB ^ 3) = true ∧ m ≤ 9 ∧ rest = frC m (Z % BB ^ 3) ∧ chV V = pre ++ rest ∧ (∃ Q a b c, CSt R Z Q a b c wr) ∧ P10 wr ∧ J pre wr) (fun wr => (frC 9 (digOf R wr)).length)
  case atStart => exact ⟨9, V, [a, b, c], fr, HOK.out, Nat.le_refl _, HFR.out, HXS.out, ⟨_, _, _, _, HS6.out⟩, HT6.out, HJ6.out⟩
  case round =>
    obtain ⟨m, Z, pre, rest, hok, hm9, hrest, hxs, ⟨Q', a', b', c', hst⟩, ht, hj⟩ := hrel
    have HST := Lib.hid hst
    have HTT := Lib.hid ht
    have HJJ := Lib.hid hj
    have HRE := Lib.hid hrest
    have HXX := Lib.hid hxs
    have HO := Lib.hid hok
    have HM := Lib.hid (show (frC 9 (digOf R wr)).length = (frC m (Z % BB ^ 3)).length from by rw [digOf_is hst.lo, frC_fuel hok hm9])
    clear hst ht hj hrest hxs hok
    by_cases hz : Z % BB ^ 3 = 0
    · have HD : Hid (decide (Z % BB ^ 3 ≠ 0) = false) := Lib.hid (by simpa using hz)
      have HE := Lib.hid (show J (chV V) wr from by
        have := HXX.out
        rw [HRE.out, hz, frC_zero, List.append_nil] at this
        rw [this]
        exact HJJ.out)
      clear hz
      gi_wp2
      refine ⟨trivial, callsIn_wide.2 ((any_any R 0 3 7 Z _ (by decide) HST.out.lo).mono ?_)⟩
      rintro r w' ⟨rfl, rfl⟩
      rw [HD.out]
      gi_wp2
      go_end0
      exact ⟨⟨_, rfl⟩, HE.out⟩
    · have HD : Hid (decide (Z % BB ^ 3 ≠ 0) = true) := Lib.hid (by simpa using hz)
      obtain ⟨m', hm', hok', hfr'⟩ := frOk_step HO.out hz
      obtain ⟨x, hx⟩ : ∃ x, x = Z % BB ^ 3 * p / BB ^ 3 := ⟨_, rfl⟩
      have HXN := Lib.hid (show rest = x :: frC m' (Z % BB ^ 3 * 10 ^ 19 % BB ^ 3) from by rw [HRE.out, hfr', hx, HPE.out])
      have HXM := Lib.hid (show (Z % BB ^ 3 * p + 0) / BB ^ 3 = x from by rw [hx, Nat.add_zero])
      have HZM := Lib.hid (show Z % BB ^ 3 * 10 ^ 19 % BB ^ 3 = (Z * p + 0) % BB ^ 3 from by rw [HPE.out, Nat.add_zero, Nat.mod_mul_mod])
      rw [HZM.out] at HXN hok'
      have HOK' := Lib.hid hok'
      have HMM := Lib.hid (show m' ≤ 9 ∧ (frC m (Z % BB ^ 3)).length = (frC m' ((Z * p + 0) % BB ^ 3)).length + 1 from ⟨by omega, by rw [hfr', HZM.out]; rfl⟩)
      have HXY := Lib.hid (show chV V = pre ++ x :: frC m' ((Z * p + 0) % BB ^ 3) from by rw [HXX.out, HXN.out])
      have g := HTT.out.1 19 (by decide)
      rw [← HPE.out] at g
      clear hz hfr' hx hm' hok'
      gi_wp2
      refine ⟨trivial, callsIn_wide.2 ((any_any R 0 3 7 Z _ (by decide) HST.out.lo).mono ?_)⟩
      rintro r w' ⟨rfl, rfl⟩
      rw [HD.out]
      gi_wp2
      gi_region_with_o (first | (refine ⟨trivial, ?_⟩; gi_at_call 90; refine (callsIn_wide.2 (mul_any R 0 3 7 Z p 0 _ (by decide) HPB.out (by decide) HST.out.drew.lo)).mono ?_; rw [HXM.out]; rintro q w1 ⟨rfl, ho, hd⟩; have HS1 := Lib.hid (HST.out.drew.mul ho hd); have HT1 := Lib.hid (HTT.out.only (only_drew_l ho.toOnly) HRP.out); have hj1 := HJ.out _ _ w1 HJJ.out ⟨some R, grown_only (only_drew_l ho.toOnly), fun r e => by cases e; exact ⟨Nat.le_of_eq HRZ.out, by obtain ⟨cur, hc⟩ := HST.out.ty; exact ⟨_, hc, .inr ⟨cur, _, rfl⟩⟩⟩⟩; obtain ⟨fn, tmps, assign, body, hy, hR⟩ := HY.out _ _ _ w1 HXY.out hj1; dsimp only [encC] at hy; clear ho hd hj1) | (refine hR.mono ?_; rintro e w2 ⟨rfl, hj2, hk2⟩))
      have HS2 := Lib.hid (HS1.out.ked hk2)
      have HT2 := Lib.hid (hk2.tab HT1.out)
      have HJ2 := Lib.hid hj2
      clear hj2 hk2 hy hR g
      gi_wp2
      go_roundw
      case rel =>
        (repeat apply Exists.intro)
        refine ⟨?_, rfl⟩
        exact ⟨m', Z * p + 0, pre ++ [x], _, HOK'.out, HMM.out.1, rfl, by rw [HXY.out, List.append_assoc]; rfl, ⟨_, _, _, _, HS2.out⟩, HT2.out, HJ2.out⟩
      case measure => rw [HM.out, digOf_is HS2.out.lo, frC_fuel HOK'.out HMM.out.1, HMM.out.2]; omega

end Go.Proofs.YtbfknapmhkpgcaaGreatDoor
