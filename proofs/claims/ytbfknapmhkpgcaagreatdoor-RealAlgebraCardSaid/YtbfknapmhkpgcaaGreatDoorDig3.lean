/-
  PACKAGE real, decimal digits: the iterator over the digits.
-/
import Derived.Test.YtbfknapmhkpgcaaGreatDoorDig2

namespace Go.Proofs.YtbfknapmhkpgcaaGreatDoor
open Go.RowKit Go.Shelf
set_option linter.unusedVariables false
attribute [local go_sem] Oper.semAt_some

abbrev encB (b : UInt8) : Array Value := #[.int .u8 (b.toNat : Int)]

set_option maxRecDepth 100000 in
theorem chunks_any (V : Nat) (w : World) :
    Calls Tryz.prog 134 #[digV V] w fun r w' => r = .returned (.func (.func 145) #[] #[.pointer (some ⟨w.heap.size, 0, none⟩)]) ∧ w' = w.alloc (.cells (digC V) 94) := by
  have hmf : ∀ (fn : Fn) (first cap : Array Value) (w : World), (Instr.makeFunc fn first cap).run Tryz.prog w = .ok (.func fn first cap) w := fun _ _ _ _ => rfl
  go_enter Tryz.func134, Tryz.ntmps134
  go_wp2_with fail
  go_ret
  exact ⟨rfl, rfl⟩

set_option maxRecDepth 100000 in
theorem digits_any (V : Nat) (w : World) :
    Calls Tryz.prog 117 #[digV V] w fun r w' => r = .returned (.func (.func 133) #[] #[.pointer (some ⟨w.heap.size, 0, none⟩)]) ∧ w' = w.alloc (.cells (digC V) 94) := by
  have hmf : ∀ (fn : Fn) (first cap : Array Value) (w : World), (Instr.makeFunc fn first cap).run Tryz.prog w = .ok (.func fn first cap) w := fun _ _ _ _ => rfl
  go_enter Tryz.func117, Tryz.ntmps117
  go_wp2_with fail
  go_ret
  exact ⟨rfl, rfl⟩

def flD (l : List Nat) : List UInt8 := l.flatMap fun c => chD c 19

theorem flD_snoc (l : List Nat) (x : Nat) : flD (l ++ [x]) = flD l ++ chD x 19 := by simp [flD]

theorem TurnsAllD.mono {T : TypeId} {M N : Nat} {A B : World} (h : TurnsAllD T M A B) (hn : N ≤ M) : TurnsAllD T N A B := by
  obtain ⟨row, hg, hr⟩ := h
  exact ⟨row, hg, fun r e => ⟨Nat.le_trans hn (hr r e).1, (hr r e).2⟩⟩

theorem P10.turns {T : TypeId} {N : Nat} {A B : World} (h : P10 A) (ht : TurnsAllD T N A B) (hN : 0 < N) : P10 B := by
  obtain ⟨row, hg, hr⟩ := ht
  refine ⟨fun i hi => (World.cell?_of_block (w := A) (hg.block _ h.2 (fun e => ?_))).trans (h.1 i hi), Nat.lt_of_lt_of_le h.2 hg.size⟩
  have := (hr _ e.symm).1
  simp at this
  omega

theorem KeepsFrom.rfl' (N : Nat) (A : World) : KeepsFrom N A A := ⟨Nat.le_refl _, fun _ _ _ h _ => h⟩

theorem RoundIn.wideAny {m m' lr : Nat} {P : Program} {l : Nat} {f : FuncId} {tmps : Array Value} {assign body : Code} {w : World} {R : Ending → World → Prop}
    (h : RoundIn Fence.wide m P l f tmps assign body w R) : RoundIn (Fence.wide.inRound lr) m' P l f tmps assign body w R := ⟨h.1, fun c cs _ => h.2 c cs (fun d hd => by cases hd)⟩

/-- between two chunks -/
structure DgS (J : List UInt8 → World → Prop) (R l : Nat) (pre : List UInt8) (W : World) : Prop where
  j : J pre W
  box : W.heap[R]? = some (.cells #[.func (.yield l) #[] #[]] 136 (0, 0))
  tab : P10 W

set_option maxRecDepth 100000 in
set_option maxHeartbeats 4000000 in
theorem digits1_D (n : Nat) (hn : 5 ≤ n) (Bo B V : Nat) (w : World) (hV : V < BB ^ 7) (hok : frOk 9 (V % BB ^ 3) = true) (hB : w.heap[B]? = some (.cells (digC V) 94 (0, 0))) (hT : P10 w) (hB20 : 0 < w.heap.size) (HDiv : Hid (∀ s, s ≤ 19 → DivOk (10 ^ s))) :
    SeqD Bo 94 Fence.wide n Tryz.prog 133 #[.pointer (some ⟨B, 0, none⟩)] encB (KeD Bo) (dgL V) w := by
  intro l J W hW hBo hJ hY h0
  have BX := Lib.hid ((hW.block B (Array.getElem?_eq_some_iff.1 hB).1).trans hB : W.heap[B]? = some (.cells (digC V) 94 (0, 0)))
  have hBl : B < W.heap.size := (Array.getElem?_eq_some_iff.1 BX.out).1
  have b0 : W.cell? ⟨B, 0, none⟩ = some (.int .u64 (dg V 0 : Int)) := by simp [World.cell?, BX.out]
  have b1 : W.cell? ⟨B, 1, none⟩ = some (.int .u64 (dg V 1 : Int)) := by simp [World.cell?, BX.out]
  have b2 : W.cell? ⟨B, 2, none⟩ = some (.int .u64 (dg V 2 : Int)) := by simp [World.cell?, BX.out]
  have b3 : W.cell? ⟨B, 3, none⟩ = some (.int .u64 (dg V 3 : Int)) := by simp [World.cell?, BX.out]
  have b4 : W.cell? ⟨B, 4, none⟩ = some (.int .u64 (dg V 4 : Int)) := by simp [World.cell?, BX.out]
  have b5 : W.cell? ⟨B, 5, none⟩ = some (.int .u64 (dg V 5 : Int)) := by simp [World.cell?, BX.out]
  have b6 : W.cell? ⟨B, 6, none⟩ = some (.int .u64 (dg V 6 : Int)) := by simp [World.cell?, BX.out]
  have HT := Lib.hid (hT.kept hW (Nat.le_refl _))
  have HJ := Lib.hid hJ
  have HY := Lib.hid hY
  have H0 := Lib.hid h0
  have HOK := Lib.hid hok
  have HV := Lib.hid hV
  have H20 := Lib.hid (Nat.lt_of_lt_of_le hB20 hW.size)
  have HBo := Lib.hid hBo
  have mixed : Tryz.prog.follows .mixedOrders = true := by kernel_rfl
  have h1n : 1 ≤ n := by omega
  have h1m : 1 ≤ n - 1 := by omega
  have h1k : 1 ≤ n - 1 - 1 := by omega
  have h1j : 1 ≤ n - 1 - 1 - 1 := by omega
  clear hB hT hJ hY h0 hok hV hW hB20 hBo
  refine callsIn_of_wp_marks Tryz.func133 rfl trivial ?_ rfl
  simp only [Tryz.ntmps133, List.size_toArray, List.length_cons, List.length_nil, Nat.reduceAdd, Nat.reduceSub, Array.replicate_succ, Array.replicate_zero, List.push_toArray, List.append_toArray, List.nil_append, List.cons_append]
  gi_wp2
  refine ⟨trivial, callsIn_wide.2 ((chunks_any V _).mono ?_)⟩
  rintro r w' ⟨rfl, rfl⟩
  gi_wp2
  have hb2 : Below W.heap.size W ((W.alloc (.cells #[.func (.yield l) #[] #[]] 136)).alloc (.cells (digC V) 94)) := ((Below.refl _ W).alloc (Nat.le_refl _) _).alloc (by simp) _
  have q0 : ((W.alloc (.cells #[.func (.yield l) #[] #[]] 136)).alloc (.cells (digC V) 94)).heap[W.heap.size]? = some (.cells #[.func (.yield l) #[] #[]] 136 (0, 0)) := (Below.heap_alloc _ _ _ (by simp)).trans (World.alloc_heap_new W _)
  have q1 : ((W.alloc (.cells #[.func (.yield l) #[] #[]] 136)).alloc (.cells (digC V) 94)).heap[W.heap.size + 1]? = some (.cells (digC V) 94 (0, 0)) := by have := World.alloc_heap_new (W.alloc (.cells #[.func (.yield l) #[] #[]] 136)) (.cells (digC V) 94); rwa [World.size_alloc] at this
  have qz : ((W.alloc (.cells #[.func (.yield l) #[] #[]] 136)).alloc (.cells (digC V) 94)).heap.size = W.heap.size + 2 := by simp
  generalize ((W.alloc (.cells #[.func (.yield l) #[] #[]] 136)).alloc (.cells (digC V) 94)) = W2 at hb2 q0 q1 qz ⊢
  have HT2 := Lib.hid (HT.out.kept hb2 (Nat.le_refl _))
  have H02 := Lib.hid (show DgS J W.heap.size l (flD []) W2 from ⟨HJ.out [] W W2 H0.out ⟨none, grown_below hb2, fun r e => by cases e⟩, q0, HT2.out⟩)
  have HC := Lib.hid (chunks1_D (n - 1) h1m (W2.heap.size + 2) (W.heap.size + 1) V W2 HV.out HOK.out q1 HT2.out HDiv)
  clear hb2 q0 q1 b0 b1 b2 b3 b4 b5 b6 BX hBl
  obtain ⟨R, hR⟩ : ∃ R, W.heap.size = R := ⟨_, rfl⟩
  rw [hR] at qz HC H02 HJ H20 HBo ⊢
  have h20 := H20.out
  have hBo := HBo.out
  have HQZ := Lib.hid qz
  clear qz hR
  refine wpIn_rangeFunc_D 94 rfl h1n (gf := 145) (lb := #[.pointer (some ⟨R + 1, 0, none⟩)]) rfl trivial (enters_of Tryz.func145 (by kernel_rfl) rfl)
    HC.out KeD.trans (fun X o o' ho hc => KeD.put X _ o o' ho hc (by have := HQZ.out; omega)) (Below.refl _ _) (fun _ => rfl)
    (fun pre X => DgS J R l (flD pre) X) (fun pre A B h ht => ⟨HJ.out _ A B h.j (ht.mono (by have := HQZ.out; omega)), keeps_recD ht h.box (by have := HQZ.out; omega), h.tab.turns ht (by have := HQZ.out; omega)⟩) H02.out
    (fun x c X => c = { tmps := #[.func (.yield l) #[] #[], .pointer (some ⟨B, 0, none⟩), .pointer (some ⟨R, 0, none⟩), .int .u64 (x : Int), undef, .agg #[.int .u64 (dg V 0 : Int), .int .u64 (dg V 1 : Int), .int .u64 (dg V 2 : Int), .int .u64 (dg V 3 : Int), .int .u64 (dg V 4 : Int), .int .u64 (dg V 5 : Int), .int .u64 (dg V 6 : Int)], .func (.func 145) #[] #[.pointer (some ⟨R + 1, 0, none⟩)], .int .u64 (x : Int), undef, undef, undef, undef, undef, undef, undef, undef, undef, undef, undef, undef, undef, undef, undef], defers := [] }) (fun x c A B h _ => h) ?assign ?body ?done
  case assign =>
    intro lr pre x post X hx hi
    dsimp only
    gi_wp2
    exact ⟨KeepsFrom.rfl' _ _, KeD.refl _ _, hi, by first | rfl | trivial⟩
  case body =>
    rintro lr pre x post c X hx hi rfl
    have HI := Lib.hid hi
    have HX := Lib.hid hx
    clear hx hi
    gi_wp2
    gi_loopw [4] (fun pl wr => ∃ (j : Nat) (d : List UInt8), j ≤ 19 ∧ pl = .int .i64 ((j : Int) - 1) ∧ chD x 19 = d ++ chD x j ∧ DgS J R l (flD pre ++ d) wr ∧ KeD Bo X wr) (fun pl _ => (intOf pl + 1).toNat)
    case atStart => exact ⟨19, [], Nat.le_refl _, rfl, rfl, by rw [List.append_nil]; exact HI.out, KeD.refl _ _⟩
    case round =>
      obtain ⟨j, d, hj, rfl, hd, hst, hke⟩ := hrel
      have HST := Lib.hid hst
      have HKE := Lib.hid hke
      have HD := Lib.hid hd
      clear hst hke hd
      cases j with
      | zero =>
        have HE := Lib.hid (show DgS J R l (flD (pre ++ [x])) wr from by
          rw [flD_snoc, show chD x 19 = d from by rw [HD.out]; simp [chD]]
          exact HST.out)
        rw [show ((0 : Nat) : Int) - 1 = -1 from rfl]
        gi_wp2
        exact ⟨HKE.out.keeps (by have := HQZ.out; omega), HKE.out.mono (by have := HQZ.out; omega), HE.out⟩
      | succ j =>
        have hpl : ((j + 1 : Nat) : Int) - 1 = (j : Int) := by omega
        obtain ⟨p, hp⟩ : ∃ p : Nat, p = 10 ^ j := ⟨_, rfl⟩
        obtain ⟨q, hq⟩ : ∃ q : Nat, q = x / p := ⟨_, rfl⟩
        obtain ⟨r, hr⟩ : ∃ r : Nat, r = q % 10 := ⟨_, rfl⟩
        obtain ⟨b, hb⟩ : ∃ b : UInt8, b = UInt8.ofNat (x / 10 ^ j % 10 + 48) := ⟨_, rfl⟩
        have hr10 : r < 10 := by rw [hr]; exact Nat.mod_lt _ (by decide)
        have hbv : (b.toNat : Int) = (r : Int) + 48 := by rw [hb, dg_dig, hr, hq, hp]
        have HXL := Lib.hid (show dgL V = (flD pre ++ d) ++ b :: (chD x j ++ flD post) from by
          have e1 : dgL V = flD (chV V) := rfl
          have e2 : chD x (j + 1) = b :: chD x j := by rw [hb]; rfl
          have e3 : flD (chV V) = flD pre ++ (chD x 19 ++ flD post) := by rw [HX.out]; simp [flD]
          rw [e1, e3, HD.out, e2]
          simp)
        have HD2 := Lib.hid (show chD x 19 = (d ++ [b]) ++ chD x j from by
          have e2 : chD x (j + 1) = b :: chD x j := by rw [hb]; rfl
          rw [HD.out, e2]
          simp)
        have g := HST.out.tab.1 j (by omega)
        rw [← hp] at g
        have hp0 : (0 : Int) < (p : Int) := by have : 0 < p := (by rw [hp]; exact Nat.pow_pos (by decide)); omega
        have hpn : ¬ (p : Int) = 0 := by omega
        have u := HST.out.box
        have u0 : wr.cell? ⟨R, 0, none⟩ = some (.func (.yield l) #[] #[]) := by simp [World.cell?, u]
        have hqv : (x : Int).tdiv (p : Int) = (q : Int) := by rw [hq, Int.tdiv_eq_ediv_of_nonneg (by omega)]; rfl
        have hqw : (x : Int) / (p : Int) = (q : Int) := by rw [hq]; rfl
        have hrv : (q : Int).tmod 10 = (r : Int) := by rw [hr, Int.tmod_eq_emod_of_nonneg (by omega)]; rfl
        have hrw : (q : Int) % 10 = (r : Int) := by rw [hr]; rfl
        have hxl : x < 10 ^ 19 := chV_lt V x (by rw [HX.out]; simp)
        have hql : q ≤ x := by rw [hq]; exact Nat.div_le_self _ _
        have hq64 : IntKind.u64.wrap (q : Int) = (q : Int) := by rw [IntKind.wrap_u64]; omega
        have hr8 : IntKind.u8.wrap (r : Int) = (r : Int) := by rw [IntKind.wrap_u8]; omega
        have ha8 : IntKind.u8.wrap (48 + (r : Int)) = (b.toNat : Int) := by rw [IntKind.wrap_u8, hbv]; omega
        have hbw : IntKind.u8.wrap (b.toNat : Int) = (b.toNat : Int) := by rw [IntKind.wrap_u8, hbv]; omega
        have hab : (48 : Int) + (r : Int) = (b.toNat : Int) := by rw [hbv]; omega
        have hj20 : (j : Int) < 20 := by omega
        obtain ⟨fn, tmps, assign, body, hy, hRR⟩ := HY.out _ _ _ wr.drew HXL.out (HJ.out _ wr wr.drew HST.out.j ⟨none, ⟨rfl, rfl, rfl, Nat.le_refl _, fun _ _ _ => rfl⟩, fun r e => by cases e⟩)
        dsimp only [encB] at hy
        clear hp hq hr hb hbv hr10 u hxl hql
        rw [hpl]
        gi_wp2
        gi_region_with_o (refine (RoundIn.wideAny hRR).mono ?_; rintro e w2 ⟨rfl, hj2, hk2⟩)
        all_goals
          have HS2 := Lib.hid (show DgS J R l (flD pre ++ (d ++ [b])) w2 from ⟨by rw [← List.append_assoc]; exact hj2, hk2.same _ _ _ _ (.inr (.inr rfl)) HST.out.box, hk2.tab HST.out.tab⟩)
          have HK2 := Lib.hid (HKE.out.trans (⟨hk2.size, hk2.same, hk2.recs, hk2.tab⟩ : KeD Bo wr w2))
          clear hj2 hk2 hy hRR g u0 hqv hqw hrv hrw hq64 hr8 ha8 hbw hab hp0 hpn hpl
          gi_wp2
          go_roundw
          case rel => exact ⟨j, d ++ [b], by omega, rfl, HD2.out, HS2.out, HK2.out⟩
          case measure => simp [intOf] <;> omega
  case done =>
    rintro D X hD hi hDD
    have HE := Lib.hid (show J (dgL V) X from hi.j)
    clear hi
    dsimp only
    gi_wp2
    refine ⟨by simp, .inl ⟨_, _, rfl, run_takeDeferred hDD, ?_⟩⟩
    exact ⟨_, results_none rfl _ _ _, ⟨_, rfl⟩, HJ.out _ X _ HE.out ⟨some D, grownBy_putObj' _ _ _, fun r e => by cases e; exact ⟨by have := HQZ.out; omega, _, hDD, .inl rfl⟩⟩⟩

end Go.Proofs.YtbfknapmhkpgcaaGreatDoor
