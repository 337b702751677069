/-
  PACKAGE real, decimal digits: all digits of a real.
-/
import Derived.Test.YtbfknapmhkpgcaaGreatDoorDig1
import Derived.Test.YtbfknapmhkpgcaaGreatDoorDig3
import Derived.Maps.AppendAt
import Derived.RangeFuncBox
import Derived.Laws.IdiomStrings

namespace Go.Proofs.YtbfknapmhkpgcaaGreatDoor
open Go.RowKit Go.Shelf
set_option linter.unusedVariables false
attribute [local go_sem] Oper.semAt_some

def lzN (V : Nat) : Nat := ((dgL V).takeWhile (· == 48)).length
def dcD (V : Nat) : List UInt8 := Lib.trimRightB ((dgL V).drop (lzN V)) 48
def dcK (V : Nat) : Int := 57 - (lzN V : Int)

theorem tw_eq (l : List UInt8) : ∀ j, j < (l.takeWhile (· == 48)).length → l[j]? = some 48 := by
  induction l with
  | nil => intro j hj; simp at hj
  | cons c l ih =>
    intro j hj
    by_cases hc : (c == 48) = true
    · rw [List.takeWhile_cons, if_pos hc] at hj
      cases j with
      | zero => simpa using hc
      | succ j => exact ih j (by simpa using hj)
    · rw [List.takeWhile_cons, if_neg hc] at hj
      simp at hj

theorem tw_ne (l : List UInt8) (h : (l.takeWhile (· == 48)).length < l.length) : ∃ b, l[(l.takeWhile (· == 48)).length]? = some b ∧ b ≠ 48 := by
  induction l with
  | nil => simp at h
  | cons c l ih =>
    by_cases hc : (c == 48) = true
    · rw [List.takeWhile_cons, if_pos hc] at h ⊢
      exact ih (by simpa using h)
    · rw [List.takeWhile_cons, if_neg hc] at h ⊢
      exact ⟨c, rfl, by simpa using hc⟩

theorem u48 (b : UInt8) (h : b ≠ 48) : ((b.toNat : Int) == 48) = false := by
  rw [beq_eq_false_iff_ne]
  intro q
  apply h
  have : b.toNat = (48 : UInt8).toNat := by simp; omega
  exact UInt8.toNat_inj.1 this

theorem undB : Tryz.prog.underlying 122 = some (.slice 5) := by kernel_rfl
theorem undU : Tryz.prog.underlying 5 = some (.int .u8) := by kernel_rfl
theorem undS : Tryz.prog.underlying 9 = some .string := by kernel_rfl
theorem infoU : (Tryz.prog.info? 5).map (fun i => (i.zero, i.size, i.bytes)) = some (some (.int .u8 0), 1, 1) := by kernel_rfl

abbrev byV (l : List UInt8) : List Value := l.map fun b => Value.int .u8 (b.toNat : Int)

/-- what decimal holds while digits come: the box of its list, and the list -/
def DcI (w : World) (B : Nat) (pre : List UInt8) (W : World) : Prop :=
  (∃ v, Boxed W B 122 v ∧ W.ownsRow w.heap.size 5 1 v pre.length (byV pre) ∧ (v = .slice none 0 0 ↔ pre = [])) ∧ Below w.heap.size w W

theorem DcI.turns {w : World} {B N : Nat} {pre : List UInt8} {X Y : World} (h : DcI w B pre X) (ht : TurnsAllD 94 N X Y) (hB : B < N) (hN : w.heap.size ≤ N) : DcI w B pre Y := by
  obtain ⟨⟨v, hv, hr, hn⟩, hb⟩ := h
  have ht' := ht
  obtain ⟨row, hg, hrow⟩ := ht
  refine ⟨⟨v, keeps_recD ht' hv hB, hr.kept hg ?_, hn⟩, hb.grown hg hb.size (fun k e => Nat.le_trans hN (hrow k e).1)⟩
  rcases hr.2 with ⟨rfl, _⟩ | ⟨g, cap, cur, rfl, _, hgb, _⟩
  · exact .inl rfl
  · refine .inr fun e' => ?_
    obtain ⟨_, ob, ho, hc⟩ := hrow g (by simpa [Value.ownBlock] using e'.symm)
    rw [hgb] at ho
    cases ho
    rcases hc with hc | ⟨cur', fr, hc⟩
    · cases hc
    · cases hc

theorem keD_append {Bo n₀ B k : Nat} {W w1 : World} {v v' : Value} {xs : List Value} {tmp : Obj} (hv : Boxed W B 122 v) (hrow : W.ownsRow n₀ 5 1 v k xs) (hgrow : (W.alloc tmp).grownBy w1 v.ownBlock) (hk2 : KeepsOthers W (w1.setCell ⟨B, 0, none⟩ v')) (hb2 : Below n₀ W (w1.setCell ⟨B, 0, none⟩ v')) (h0 : 0 < n₀) : KeD Bo W (w1.setCell ⟨B, 0, none⟩ v') := by
  refine ⟨hb2.size, fun i cur T fr hT ho => ?_, fun i ob _ ho hc => hk2.same i ob ho hc, fun p => ⟨fun i hi => (hb2.cell (p := ⟨0, i, none⟩) h0).trans (p.1 i hi), Nat.lt_of_lt_of_le p.2 hb2.size⟩⟩
  have hlt := (Array.getElem?_eq_some_iff.1 ho).1
  have hne : i ≠ B := by
    rintro rfl
    have := (show W.heap[i]? = _ from hv).symm.trans ho
    cases this
    rcases hT with h | h | h <;> cases h
  rw [Below.heap_setCell _ _ _ _ hne, hgrow.block i (by simp; omega) ?_, Below.heap_alloc _ _ _ hlt, ho]
  rcases hrow.2 with ⟨rfl, _⟩ | ⟨g, cap, cur', rfl, _, hgb, _⟩
  · simp [Value.ownBlock]
  · intro e
    obtain rfl : i = g := by simpa [Value.ownBlock] using e
    rw [hgb] at ho
    cases ho
    rcases hT with h | h | h <;> cases h

set_option maxRecDepth 100000 in
set_option maxHeartbeats 4000000 in
theorem dec_any (m e : Int) (V : Nat) (w : World) (h0 : 0 < m) (h1 : m ≤ 16777216) (e1 : -150 ≤ e) (e2 : e ≤ 150) (hV : fxV m e = V) (hz : lzN V < (dgL V).length) (hT : P10 w) (hw20 : 0 < w.heap.size) (HDiv : Hid (∀ s, s ≤ 19 → DivOk (10 ^ s))) :
    Calls Tryz.prog 95 #[realV m e] w fun r w' => r = .returned (.tuple #[.string (bs (dcD V)), .int .i64 (dcK V)]) ∧ Below w.heap.size w w' := by
  have HF := Lib.hid (fun w => fix_any m e w (by omega) h1 e1 e2)
  have hVlt := fxV_lt m e (by omega) h1 e2
  have hok := fxV_ok m e e1
  rw [hV] at HF hVlt hok
  have HVL := Lib.hid hVlt
  have HOK := Lib.hid hok
  have HZ := Lib.hid hz
  have HT := Lib.hid hT
  have H20 := Lib.hid hw20
  obtain ⟨i0, hi, hz0, hz1, hz2⟩ := info_parts infoU
  clear hV hVlt hok hz hT
  refine (callsIn_wide (n := 12)).1 ?_
  refine callsIn_of_wp_marks Tryz.func95 rfl trivial ?_ rfl
  simp only [Tryz.ntmps95, List.size_toArray, List.length_cons, List.length_nil, Nat.reduceAdd, Nat.reduceSub, Array.replicate_succ, Array.replicate_zero, List.push_toArray, List.append_toArray, List.nil_append, List.cons_append]
  gi_wp2
  refine ⟨trivial, callsIn_wide.2 ((HF.out _).mono ?_)⟩
  rintro r w1 ⟨rfl, hb1⟩
  have bO := Boxed.new (w.alloc (.cells #[.int .i64 m, .int .i64 e] 23)) 122 (.slice none 0 0)
  rw [World.size_alloc] at bO
  have hbb : Below w.heap.size w ((w.alloc (.cells #[.int .i64 m, .int .i64 e] 23)).alloc (.cells #[.slice none 0 0] 122)) := ((Below.refl _ w).alloc (Nat.le_refl _) _).alloc (by simp) _
  have hs1 : w.heap.size + 2 ≤ w1.heap.size := by have := hb1.size; simp at this; omega
  have BO1 : Boxed w1 (w.heap.size + 1) 122 (.slice none 0 0) := (hb1.block _ (by simp)).trans bO
  have BB1 : Below w.heap.size w w1 := hbb.trans (hb1.mono (by simp; omega))
  clear bO hbb hb1
  gi_wp2
  refine ⟨trivial, callsIn_wide.2 ((digits_any V _).mono ?_)⟩
  rintro r w2 ⟨rfl, rfl⟩
  have q1 : (w1.alloc (.cells (digC V) 94)).heap[w1.heap.size]? = some (.cells (digC V) 94 (0, 0)) := World.alloc_heap_new w1 _
  have BO2 : Boxed (w1.alloc (.cells (digC V) 94)) (w.heap.size + 1) 122 (.slice none 0 0) := BO1.alloc _
  have BB2 : Below w.heap.size w (w1.alloc (.cells (digC V) 94)) := BB1.alloc (by omega) _
  have z2 : (w1.alloc (.cells (digC V) 94)).heap.size = w1.heap.size + 1 := by simp
  gi_wp2
  generalize (w1.alloc (.cells (digC V) 94)) = W2 at q1 BO2 BB2 z2 ⊢
  obtain ⟨M, hM⟩ : ∃ M, w1.heap.size = M := ⟨_, rfl⟩
  rw [hM] at q1 z2 hs1 ⊢
  have HC := Lib.hid (digits1_D 11 (by decide) (W2.heap.size + 2) M V W2 HVL.out HOK.out q1 (HT.out.kept BB2 (Nat.le_refl _)) (by omega) HDiv)
  have HI0 := Lib.hid (show DcI w (w.heap.size + 1) [] W2 from ⟨⟨_, BO2, World.ownsRow_nil _ _ _ _, by simp⟩, BB2⟩)
  have HZ2 := Lib.hid z2
  have HM := Lib.hid hM
  have HS1 := Lib.hid hs1
  clear q1 BO1 BO2 BB1 BB2 z2 hM
  have p1 : (1 : Nat) ≤ 12 := by decide
  refine wpIn_rangeFunc_D 94 rfl p1 (gf := 133) (lb := #[.pointer (some ⟨M, 0, none⟩)]) rfl trivial (enters_of Tryz.func133 (by kernel_rfl) rfl)
    HC.out KeD.trans (fun X ob ob' ho hc => KeD.put X _ ob ob' ho hc (by have := HZ2.out; have := HS1.out; have := H20.out; omega)) (Below.refl _ _) (fun _ => rfl)
    (fun pre X => DcI w (w.heap.size + 1) pre X) (fun pre A B h ht => h.turns ht (by have := HZ2.out; have := HS1.out; omega) (by have := HZ2.out; have := HS1.out; omega)) HI0.out
    (fun x c X => c = { tmps := #[realV m e, .pointer (some ⟨w.heap.size, 0, none⟩), .string ⟨#[]⟩, .int .i64 0, .pointer (some ⟨w.heap.size + 1, 0, none⟩), .int .u8 (x.toNat : Int), .agg #[.int .i64 m, .int .i64 e], digV V, .func (.func 133) #[] #[.pointer (some ⟨M, 0, none⟩)], .int .u8 (x.toNat : Int), undef, undef, undef, undef, undef, undef, undef, undef, undef, undef, undef, undef, undef, undef, undef, undef], defers := [] }) (fun x c A B h _ => h) ?assign ?body ?done
  case assign =>
    intro lr pre x post X hx hi
    dsimp only
    gi_wp2
    exact ⟨KeepsFrom.rfl' _ _, KeD.refl _ _, hi, by first | rfl | trivial⟩
  case body =>
    rintro lr pre x post c X hx hi rfl
    obtain ⟨⟨v, hv, hrow, hnil⟩, hB⟩ := hi
    have hc := hv.cell
    have hpl : pre.length + 1 ≤ 228 := by have := dgL_le V; rw [hx] at this; simp at this; omega
    gi_wp2_with (gi_at_builtin; refine wpListIn_append_own _ rfl _ _ 122 rfl w.heap.size 5 i0 (.int .u8 0) 1 1 undB hi hz0 hz1 hz2 rfl (by decide) _ _ _ rfl (hrow.alloc _) ⟨X.heap.size, 0, none⟩ 1 1 [.int .u8 (x.toNat : Int)] rfl rfl (cell_one_new _ _ _) (by simp [Value.oneCell']) (by unfold maxLen; omega) (by omega) (by have := hB.size; simp; omega) ?_; intro v' w1 hown' hgrow _; obtain ⟨g', cap', rfl⟩ := ownsRow_succ hown'; obtain ⟨hv1, hv2, hr2, hk2, hb2⟩ := hv.appended (by decide) hrow hB.size (by omega) hown' hgrow; have hc1 := hv1.cell; have hf1 := hv1.frozen)
    exact ⟨hk2.from _, keD_append hv hrow hgrow hk2 hb2 (by have := H20.out; omega), ⟨_, hv2, by simpa using hr2, by simp⟩, hB.trans hb2⟩
  case done =>
    rintro D X hD ⟨⟨v, hv, hrow, hnil⟩, hB⟩ hDD
    rcases hrow.2 with ⟨_, hl0⟩ | ⟨g, cap, cur, rfl, hgb, hgh, hnc, hcm, hsz, htk⟩
    · exact absurd hl0 (by have := HZ.out; omega)
    · have hcel : ∀ (i : Nat) (b : UInt8), (dgL V)[i]? = some b → cur[i]? = some (.int .u8 (b.toNat : Int)) := by
        intro i b hb
        have hil := (List.getElem?_eq_some_iff.1 hb).1
        have h3 : (cur.toList.take ((dgL V).length * 1))[i]? = (byV (dgL V))[i]? := by rw [htk]
        rw [List.getElem?_take, if_pos (by omega), List.getElem?_map, hb] at h3
        simpa using h3
      have HCEL := Lib.hid hcel
      have HBX := Lib.hid hv
      have HGH := Lib.hid hgh
      have HBL := Lib.hid hB
      have HDD := Lib.hid hDD
      have HNC := Lib.hid hnc
      have hLle := dgL_le V
      have HLL := Lib.hid hLle
      have HDL := Lib.hid hD
      obtain ⟨L, hL⟩ : ∃ L, (dgL V).length = L := ⟨_, rfl⟩
      obtain ⟨z, hzz⟩ : ∃ z, lzN V = z := ⟨_, rfl⟩
      rw [hL] at HBX HNC HZ HLL
      rw [hzz] at HZ
      have HLE := Lib.hid hL
      have HZE := Lib.hid hzz
      have hgne : g ≠ w.heap.size + 1 := by rintro rfl; have := (show X.heap[w.heap.size + 1]? = _ from hv).symm.trans hgh; cases this
      clear hcel hv hrow hgh hB hDD hnc hnil htk hsz hLle hL hzz hD
      dsimp only
      gi_wp2
      gi_loopw [3] (fun kk wr => ∃ (j a b : Nat), j + a = L ∧ j + b = cap ∧ j ≤ z ∧ kk = .int .i64 (57 - (j : Int)) ∧ Boxed wr (w.heap.size + 1) 122 (.slice (some ⟨g, j, none⟩) a b) ∧ wr.heap[g]? = some (.cells cur 5 (0, 0)) ∧ wr.heap[D]? = some (.deferred (some [])) ∧ Below w.heap.size w wr) (fun kk _ => z - (57 - intOf kk).toNat)
      case atStart => exact ⟨0, L, cap, by omega, by omega, Nat.zero_le _, rfl, HBX.out, HGH.out, HDD.out, HBL.out⟩
      case round =>
        obtain ⟨j, a, b, hja, hjb, hjz, rfl, hbx, hgw, hdw, hbw⟩ := hrel
        have hbc := hbx.cell
        have hbf := hbx.frozen
        have HBX2 := Lib.hid hbx
        have HGW := Lib.hid hgw
        have HDW := Lib.hid hdw
        have HBW := Lib.hid hbw
        have hzl := HZ.out
        have hncl := HNC.out
        have hll := HLL.out
        obtain ⟨a, rfl⟩ : ∃ a', a = a' + 1 := ⟨a - 1, by omega⟩
        obtain ⟨b, rfl⟩ : ∃ b', b = b' + 1 := ⟨b - 1, by omega⟩
        have ha1 : 0 < a + 1 := by omega
        have ha2 : (0 : Int) < ((a + 1 : Nat) : Int) := by omega
        clear hbx hgw hdw hbw
        by_cases hjz2 : j < z
        · have hc48 : wr.cell? ⟨g, j, none⟩ = some (.int .u8 48) := by
            have := HCEL.out j 48 (tw_eq _ j (by have : lzN V = z := HZE.out; unfold lzN at this; omega))
            simp [World.cell?, HGW.out, this]
          have hb0 : ¬ b = 0 := by omega
          have ha3 : (1 : Int) ≤ ((a + 1 : Nat) : Int) := by omega
          have ha4 : 1 ≤ a + 1 := by omega
          have hk1 : IntKind.i64.wrap (57 - (j : Int) - 1) = 57 - ((j + 1 : Nat) : Int) := by rw [IntWalk.i64_in _ (by omega)]; omega
          have hk2 : 57 - (j : Int) - 1 = 57 - ((j + 1 : Nat) : Int) := by omega
          gi_wp2
          go_roundw
          case rel => exact ⟨j + 1, a, b, by omega, by omega, by omega, by simp <;> omega, HBX2.out.set _, (Below.heap_setCell _ _ _ _ hgne).trans HGW.out, (KeepsOthers.setCell _ _ _).same D _ HDW.out rfl, HBW.out.setCell (by simp) _⟩
          case measure => simp [intOf] <;> omega
        · obtain rfl : j = z := by omega
          obtain ⟨c, hc1, hc2⟩ := tw_ne (dgL V) (by have h1 : lzN V = j := HZE.out; have h2 := HLE.out; unfold lzN at h1; omega)
          rw [show ((dgL V).takeWhile (· == 48)).length = j from HZE.out] at hc1
          have hcc : wr.cell? ⟨g, j, none⟩ = some (.int .u8 (c.toNat : Int)) := by simp [World.cell?, HGW.out, HCEL.out j c hc1]
          have h48 := u48 c hc2
          have hcv : (convert 122 9 (.slice (some ⟨g, j, none⟩) (a + 1) (b + 1))).run Tryz.prog wr = .ok (.string (bs ((dgL V).drop j))) wr := by
            have hlen : ((dgL V).drop j).length = a + 1 := by have := HLE.out; rw [List.length_drop]; omega
            have := run_convert_bytes_back (P := Tryz.prog) wr 122 9 5 ⟨g, j, none⟩ (b + 1) ((dgL V).drop j) undB undU undS (fun i hi => by
              rw [show (⟨g, j, none⟩ : Addr).add i = ⟨g, j + i, none⟩ from by simp [Addr.add]]
              have h1 : (dgL V)[j + i]? = some ((dgL V).drop j)[i] := by
                rw [List.getElem_drop]
                rw [List.length_drop] at hi
                exact List.getElem?_eq_getElem _
              simp [World.cell?, HGW.out, HCEL.out _ _ h1])
            rwa [hlen] at this
          have HTR : Hid (∀ w, Calls Tryz.prog 98 #[.string (bs ((dgL V).drop j)), .string ⟨#[48]⟩] w fun e w' => e = .returned (.string (bs (dcD V))) ∧ w' = w) := Lib.hid (fun w => by
            have := Tryz.strings_TrimRight_one (bs ((dgL V).drop j)) 48 (by decide) w (by rw [bs_size, List.length_drop]; have := HLE.out; omega)
            rw [show (bs ((dgL V).drop j)).data.toList = (dgL V).drop j from by simp] at this
            rw [show dcD V = Lib.trimRightB ((dgL V).drop j) 48 from by unfold dcD; rw [HZE.out]]
            exact this)
          have HKZ := Lib.hid (show dcK V = 57 - (j : Int) from by unfold dcK; rw [HZE.out])
          clear hc1 hc2
          gi_wp2
          refine ⟨trivial, callsIn_wide.2 ((HTR.out _).mono ?_)⟩
          rintro r w' ⟨rfl, rfl⟩
          gi_wp2
          refine ⟨by simp, .inl ⟨_, _, rfl, run_takeDeferred HDW.out, ?_⟩⟩
          refine ⟨_, ?_, ⟨rfl, HBW.out.trans (belowK_b (w := w) (Nat.le_refl _) _ D _ (.deferred none) (by have := HDL.out; have := HZ2.out; have := HS1.out; omega) HDW.out rfl rfl)⟩⟩
          simp [results, Tryz.results95, HKZ.out]

end Go.Proofs.YtbfknapmhkpgcaaGreatDoor
