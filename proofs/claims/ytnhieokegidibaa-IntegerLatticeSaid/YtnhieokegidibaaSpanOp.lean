/-
  WHAT THE OPERATIONS ON SPANS RETURN: sums, differences, products, comparisons, meets, joins, opposites.
-/
import Derived.Test.YtnhieokegidibaaClip

namespace Go.Proofs.Ytnhieokegidibaa
open Go.RowKit

theorem bsp_iff {la ua lb ub : Int} : bsp la ua lb ub = true ↔ ((-2147483647 ≤ la ∧ la ≤ 2147483647) ∧ (-2147483647 ≤ ua ∧ ua ≤ 2147483647) ∧ la ≤ ua) ∧ ((-2147483647 ≤ lb ∧ lb ≤ 2147483647) ∧ (-2147483647 ≤ ub ∧ ub ≤ 2147483647) ∧ lb ≤ ub) := by
  rw [bsp, Bool.and_eq_true, vsp_iff, vsp_iff]
/-- the results of the operations on the ends -/
def addF (la ua lb ub : Int) (p q : Bool) : Int := cond p ua la + cond q ub lb
def subF (la ua lb ub : Int) (p q : Bool) : Int := cond p ua la - cond q ub lb
def mulF (la ua lb ub : Int) (p q : Bool) : Int := cond p ua la * cond q ub lb
def cmpF (la ua lb ub : Int) (p q : Bool) : Int := cmp3 (cond p ua la) (cond q ub lb)
theorem low4_le (v : Bool → Bool → Int) (p q : Bool) : low4 v ≤ v p q ∧ v p q ≤ high4 v := by
  have k1 : ∀ x y : Int, mn x y ≤ x ∧ mn x y ≤ y := fun x y => by unfold mn; split <;> omega
  have k2 : ∀ x y : Int, x ≤ mx x y ∧ y ≤ mx x y := fun x y => by unfold mx; split <;> omega
  have a1 := k1 (v false false) (v false true)
  have a2 := k1 (mn (v false false) (v false true)) (v true false)
  have a3 := k1 (mn (mn (v false false) (v false true)) (v true false)) (v true true)
  have b1 := k2 (v false false) (v false true)
  have b2 := k2 (mx (v false false) (v false true)) (v true false)
  have b3 := k2 (mx (mx (v false false) (v false true)) (v true false)) (v true true)
  unfold low4 high4
  cases p <;> cases q <;> omega
theorem low4_high (v : Bool → Bool → Int) : low4 v ≤ high4 v := Int.le_trans (low4_le v true true).1 (low4_le v true true).2
theorem ends_bds {la ua lb ub : Int} (h : bsp la ua lb ub = true) (p q : Bool) : (-2147483647 ≤ cond p ua la ∧ cond p ua la ≤ 2147483647) ∧ (-2147483647 ≤ cond q ub lb ∧ cond q ub lb ≤ 2147483647) := by
  have h := bsp_iff.1 h
  cases p <;> cases q <;> simp <;> omega
/-- what an operation on spans returns, out of the extreme results -/
def opL (la ua lb ub : Int) (v : Bool → Bool → Int) : Int := if bsp la ua lb ub then cutL (low4 v) (high4 v) else 0
def opH (la ua lb ub : Int) (v : Bool → Bool → Int) : Int := if bsp la ua lb ub then cutH (low4 v) (high4 v) else 0
def opM (la ua lb ub : Int) (v : Bool → Bool → Int) : Bool := if bsp la ua lb ub then cutM (low4 v) (high4 v) else false
def opE (la ua lb ub : Int) (v : Bool → Bool → Int) : Int := if bsp la ua lb ub then cutE (low4 v) (high4 v) else 1

set_option maxRecDepth 100000 in
set_option maxHeartbeats 1600000 in
theorem sadd_clip (la ua lb ub : Int) (w : World) : Calls Try.prog 32 #[spanV la ua, spanV lb ub, .func (.func 33) #[] #[]] w fun e w' => e = .returned (opV (opL la ua lb ub (addF la ua lb ub)) (opH la ua lb ub (addF la ua lb ub)) (opM la ua lb ub (addF la ua lb ub)) (opE la ua lb ub (addF la ua lb ub))) ∧ Below w.heap.size w w' := by
  unfold opL opH opM opE
  cases hb : bsp la ua lb ub
  · exact clip_no 33 la ua lb ub w hb
  · exact clip_any 33 (enters_of Try.func33 (by kernel_rfl) rfl) la ua lb ub _ w hb (low4_high _) (fun p q w => by have ⟨⟨e1, e2⟩, e3, e4⟩ := ends_bds hb p q; exact opadd_any _ _ w e1 e2 e3 e4)

set_option maxRecDepth 100000 in
set_option maxHeartbeats 1600000 in
theorem sadd_any (la ua lb ub : Int) (w : World) :
    Calls Try.prog 11 #[spanV la ua, spanV lb ub] w fun e w' => e = .returned (opV (opL la ua lb ub (addF la ua lb ub)) (opH la ua lb ub (addF la ua lb ub)) (opM la ua lb ub (addF la ua lb ub)) (opE la ua lb ub (addF la ua lb ub))) ∧ Below w.heap.size w w' := by
  go_enter Try.func11, Try.ntmps11
  go_wp2_with fail
  refine (sadd_clip _ _ _ _ _).mono ?_
  rintro e w1 ⟨rfl, hb1⟩
  have r0 : w1.cell? ⟨w.heap.size + 1 + 1, 0, none⟩ = some (.int .i64 0) := carry hb1 (by go_simp)
  have r1 : w1.cell? ⟨w.heap.size + 1 + 1, 1, none⟩ = some (.int .i64 0) := carry hb1 (by go_simp)
  have f0 : w1.frozen? ⟨w.heap.size + 1 + 1, 0, none⟩ = false := carryF hb1 (v := .int .i64 0) (by go_simp) (by go_simp)
  have f1 : w1.frozen? ⟨w.heap.size + 1 + 1, 1, none⟩ = false := carryF hb1 (v := .int .i64 0) (by go_simp) (by go_simp)
  have HBB := Lib.hid ((by repeat (first | exact Below.refl _ _ | refine Below.alloc ?_ (by simp <;> omega) _) : Below w.heap.size w (((w.alloc _).alloc _).alloc _)).trans (hb1.mono (by simp <;> omega)))
  clear hb1
  generalize hl : opL la ua lb ub (addF la ua lb ub) = l
  generalize hh : opH la ua lb ub (addF la ua lb ub) = h
  generalize hm : opM la ua lb ub (addF la ua lb ub) = m
  generalize he : opE la ua lb ub (addF la ua lb ub) = er
  have HQ := Lib.hid (And.intro (And.intro hl hh) (And.intro hm he))
  clear hl hh hm he
  go_wp2_with fail
  refine bodyPost_ret (v := opV l h m er) ?_ rfl ⟨by rw [HQ.out.1.1, HQ.out.1.2, HQ.out.2.1, HQ.out.2.2], ?_⟩
  · simp [results, Try.results11, go_sem, r0, r1]
  · exact (HBB.out.setCell (p := ⟨w.heap.size + 1 + 1, 0, none⟩) (by show w.heap.size ≤ w.heap.size + 1 + 1; omega) _).setCell (p := ⟨w.heap.size + 1 + 1, 1, none⟩) (by show w.heap.size ≤ w.heap.size + 1 + 1; omega) _

set_option maxRecDepth 100000 in
set_option maxHeartbeats 1600000 in
theorem ssub_clip (la ua lb ub : Int) (w : World) : Calls Try.prog 32 #[spanV la ua, spanV lb ub, .func (.func 35) #[] #[]] w fun e w' => e = .returned (opV (opL la ua lb ub (subF la ua lb ub)) (opH la ua lb ub (subF la ua lb ub)) (opM la ua lb ub (subF la ua lb ub)) (opE la ua lb ub (subF la ua lb ub))) ∧ Below w.heap.size w w' := by
  unfold opL opH opM opE
  cases hb : bsp la ua lb ub
  · exact clip_no 35 la ua lb ub w hb
  · exact clip_any 35 (enters_of Try.func35 (by kernel_rfl) rfl) la ua lb ub _ w hb (low4_high _) (fun p q w => by have ⟨⟨e1, e2⟩, e3, e4⟩ := ends_bds hb p q; exact opsub_any _ _ w e1 e2 e3 e4)

set_option maxRecDepth 100000 in
set_option maxHeartbeats 1600000 in
theorem ssub_any (la ua lb ub : Int) (w : World) :
    Calls Try.prog 13 #[spanV la ua, spanV lb ub] w fun e w' => e = .returned (opV (opL la ua lb ub (subF la ua lb ub)) (opH la ua lb ub (subF la ua lb ub)) (opM la ua lb ub (subF la ua lb ub)) (opE la ua lb ub (subF la ua lb ub))) ∧ Below w.heap.size w w' := by
  go_enter Try.func13, Try.ntmps13
  go_wp2_with fail
  refine (ssub_clip _ _ _ _ _).mono ?_
  rintro e w1 ⟨rfl, hb1⟩
  have r0 : w1.cell? ⟨w.heap.size + 1 + 1, 0, none⟩ = some (.int .i64 0) := carry hb1 (by go_simp)
  have r1 : w1.cell? ⟨w.heap.size + 1 + 1, 1, none⟩ = some (.int .i64 0) := carry hb1 (by go_simp)
  have f0 : w1.frozen? ⟨w.heap.size + 1 + 1, 0, none⟩ = false := carryF hb1 (v := .int .i64 0) (by go_simp) (by go_simp)
  have f1 : w1.frozen? ⟨w.heap.size + 1 + 1, 1, none⟩ = false := carryF hb1 (v := .int .i64 0) (by go_simp) (by go_simp)
  have HBB := Lib.hid ((by repeat (first | exact Below.refl _ _ | refine Below.alloc ?_ (by simp <;> omega) _) : Below w.heap.size w (((w.alloc _).alloc _).alloc _)).trans (hb1.mono (by simp <;> omega)))
  clear hb1
  generalize hl : opL la ua lb ub (subF la ua lb ub) = l
  generalize hh : opH la ua lb ub (subF la ua lb ub) = h
  generalize hm : opM la ua lb ub (subF la ua lb ub) = m
  generalize he : opE la ua lb ub (subF la ua lb ub) = er
  have HQ := Lib.hid (And.intro (And.intro hl hh) (And.intro hm he))
  clear hl hh hm he
  go_wp2_with fail
  refine bodyPost_ret (v := opV l h m er) ?_ rfl ⟨by rw [HQ.out.1.1, HQ.out.1.2, HQ.out.2.1, HQ.out.2.2], ?_⟩
  · simp [results, Try.results13, go_sem, r0, r1]
  · exact (HBB.out.setCell (p := ⟨w.heap.size + 1 + 1, 0, none⟩) (by show w.heap.size ≤ w.heap.size + 1 + 1; omega) _).setCell (p := ⟨w.heap.size + 1 + 1, 1, none⟩) (by show w.heap.size ≤ w.heap.size + 1 + 1; omega) _

set_option maxRecDepth 100000 in
set_option maxHeartbeats 1600000 in
theorem smul_clip (la ua lb ub : Int) (w : World) : Calls Try.prog 32 #[spanV la ua, spanV lb ub, .func (.func 36) #[] #[]] w fun e w' => e = .returned (opV (opL la ua lb ub (mulF la ua lb ub)) (opH la ua lb ub (mulF la ua lb ub)) (opM la ua lb ub (mulF la ua lb ub)) (opE la ua lb ub (mulF la ua lb ub))) ∧ Below w.heap.size w w' := by
  unfold opL opH opM opE
  cases hb : bsp la ua lb ub
  · exact clip_no 36 la ua lb ub w hb
  · exact clip_any 36 (enters_of Try.func36 (by kernel_rfl) rfl) la ua lb ub _ w hb (low4_high _) (fun p q w => by have ⟨⟨e1, e2⟩, e3, e4⟩ := ends_bds hb p q; exact opmul_any _ _ w e1 e2 e3 e4)

set_option maxRecDepth 100000 in
set_option maxHeartbeats 1600000 in
theorem smul_any (la ua lb ub : Int) (w : World) :
    Calls Try.prog 15 #[spanV la ua, spanV lb ub] w fun e w' => e = .returned (opV (opL la ua lb ub (mulF la ua lb ub)) (opH la ua lb ub (mulF la ua lb ub)) (opM la ua lb ub (mulF la ua lb ub)) (opE la ua lb ub (mulF la ua lb ub))) ∧ Below w.heap.size w w' := by
  go_enter Try.func15, Try.ntmps15
  go_wp2_with fail
  refine (smul_clip _ _ _ _ _).mono ?_
  rintro e w1 ⟨rfl, hb1⟩
  have r0 : w1.cell? ⟨w.heap.size + 1 + 1, 0, none⟩ = some (.int .i64 0) := carry hb1 (by go_simp)
  have r1 : w1.cell? ⟨w.heap.size + 1 + 1, 1, none⟩ = some (.int .i64 0) := carry hb1 (by go_simp)
  have f0 : w1.frozen? ⟨w.heap.size + 1 + 1, 0, none⟩ = false := carryF hb1 (v := .int .i64 0) (by go_simp) (by go_simp)
  have f1 : w1.frozen? ⟨w.heap.size + 1 + 1, 1, none⟩ = false := carryF hb1 (v := .int .i64 0) (by go_simp) (by go_simp)
  have HBB := Lib.hid ((by repeat (first | exact Below.refl _ _ | refine Below.alloc ?_ (by simp <;> omega) _) : Below w.heap.size w (((w.alloc _).alloc _).alloc _)).trans (hb1.mono (by simp <;> omega)))
  clear hb1
  generalize hl : opL la ua lb ub (mulF la ua lb ub) = l
  generalize hh : opH la ua lb ub (mulF la ua lb ub) = h
  generalize hm : opM la ua lb ub (mulF la ua lb ub) = m
  generalize he : opE la ua lb ub (mulF la ua lb ub) = er
  have HQ := Lib.hid (And.intro (And.intro hl hh) (And.intro hm he))
  clear hl hh hm he
  go_wp2_with fail
  refine bodyPost_ret (v := opV l h m er) ?_ rfl ⟨by rw [HQ.out.1.1, HQ.out.1.2, HQ.out.2.1, HQ.out.2.2], ?_⟩
  · simp [results, Try.results15, go_sem, r0, r1]
  · exact (HBB.out.setCell (p := ⟨w.heap.size + 1 + 1, 0, none⟩) (by show w.heap.size ≤ w.heap.size + 1 + 1; omega) _).setCell (p := ⟨w.heap.size + 1 + 1, 1, none⟩) (by show w.heap.size ≤ w.heap.size + 1 + 1; omega) _

abbrev spE (l h e : Int) : Value := .tuple #[spanV l h, .int .i64 e]
def negL (l u : Int) : Int := if vsp l u then -u else 0
def negH (l u : Int) : Int := if vsp l u then -l else 0
def negE (l u : Int) : Int := if vsp l u then 0 else 1
def meetOK (la ua lb ub : Int) : Bool := vsp (mx la lb) (mn ua ub)
def meetL (la ua lb ub : Int) : Int := if bsp la ua lb ub && meetOK la ua lb ub then mx la lb else 0
def meetH (la ua lb ub : Int) : Int := if bsp la ua lb ub && meetOK la ua lb ub then mn ua ub else 0
def meetE (la ua lb ub : Int) : Int := if bsp la ua lb ub then (if meetOK la ua lb ub then 0 else 5) else 1
def joinL (la ua lb ub : Int) : Int := if bsp la ua lb ub then mn la lb else 0
def joinH (la ua lb ub : Int) : Int := if bsp la ua lb ub then mx ua ub else 0
def joinE (la ua lb ub : Int) : Int := if bsp la ua lb ub then 0 else 1
def scmpL (la ua lb ub : Int) : Int := if bsp la ua lb ub then low4 (cmpF la ua lb ub) else 0
def scmpH (la ua lb ub : Int) : Int := if bsp la ua lb ub then high4 (cmpF la ua lb ub) else 0

set_option maxRecDepth 100000 in
set_option maxHeartbeats 1600000 in
theorem sneg_any (la ua : Int) (w : World) :
    Calls Try.prog 7 #[spanV la ua] w fun e w' => e = .returned (spE (negL la ua) (negH la ua) (negE la ua)) ∧ Below w.heap.size w w' := by
  go_enter Try.func7, Try.ntmps7
  go_wp2_with fail
  refine (vspan_any _ _ _).mono ?_
  rintro e w1 ⟨rfl, hb1⟩
  have a0 : w1.cell? ⟨w.heap.size, 0, none⟩ = some (.int .i64 la) := carry hb1 (by go_simp)
  have a1 : w1.cell? ⟨w.heap.size, 1, none⟩ = some (.int .i64 ua) := carry hb1 (by go_simp)
  have r0 : w1.cell? ⟨w.heap.size + 1, 0, none⟩ = some (.int .i64 0) := carry hb1 (by go_simp)
  have r1 : w1.cell? ⟨w.heap.size + 1, 1, none⟩ = some (.int .i64 0) := carry hb1 (by go_simp)
  have f0 : w1.frozen? ⟨w.heap.size + 1, 0, none⟩ = false := carryF hb1 (v := .int .i64 0) (by go_simp) (by go_simp)
  have f1 : w1.frozen? ⟨w.heap.size + 1, 1, none⟩ = false := carryF hb1 (v := .int .i64 0) (by go_simp) (by go_simp)
  have HBB := Lib.hid ((by repeat (first | exact Below.refl _ _ | refine Below.alloc ?_ (by simp <;> omega) _) : Below w.heap.size w ((w.alloc _).alloc _)).trans (hb1.mono (by simp <;> omega)))
  clear hb1
  cases hv : vsp la ua
  · have H := Lib.hid (show negL la ua = 0 ∧ negH la ua = 0 ∧ negE la ua = 1 from by simp [negL, negH, negE, hv])
    clear hv
    go_wp2_with fail
    refine bodyPost_ret (v := spE (0) (0) (1)) ?_ rfl ⟨by rw [H.out.1, H.out.2.1, H.out.2.2], ?_⟩
    · simp [results, Try.results7, go_sem, r0, r1]
    · exact (HBB.out.setCell (p := ⟨w.heap.size + 1, 0, none⟩) (by show w.heap.size ≤ w.heap.size + 1; omega) _).setCell (p := ⟨w.heap.size + 1, 1, none⟩) (by show w.heap.size ≤ w.heap.size + 1; omega) _
  · have H := Lib.hid (show negL la ua = -ua ∧ negH la ua = -la ∧ negE la ua = 0 from by simp [negL, negH, negE, hv])
    have ⟨⟨k1, k2⟩, ⟨k3, k4⟩, _⟩ := vsp_iff.1 hv
    clear hv
    go_wp2_with fail
    refine bodyPost_ret (v := spE (-ua) (-la) (0)) ?_ rfl ⟨by rw [H.out.1, H.out.2.1, H.out.2.2], ?_⟩
    · simp [results, Try.results7, go_sem, r0, r1]
    · exact (HBB.out.setCell (p := ⟨w.heap.size + 1, 0, none⟩) (by show w.heap.size ≤ w.heap.size + 1; omega) _).setCell (p := ⟨w.heap.size + 1, 1, none⟩) (by show w.heap.size ≤ w.heap.size + 1; omega) _

set_option maxRecDepth 100000 in
set_option maxHeartbeats 1600000 in
theorem around_any (la ua lb ub : Int) (w : World) :
    Calls Try.prog 39 #[spanV la ua, spanV lb ub] w fun e w' => e = .returned (spanV (mn la lb) (mx ua ub)) ∧ Below w.heap.size w w' := by
  have B0 : ∀ o1 o2 o3 : Obj, Below w.heap.size w (((w.alloc o1).alloc o2).alloc o3) := fun _ _ _ => by repeat (first | exact Below.refl _ _ | refine Below.alloc ?_ (by simp <;> omega) _)
  have HBB := Lib.hid B0
  clear B0
  rcases (by omega : lb < la ∨ la ≤ lb) with h1 | h1 <;> rcases (by omega : ua < ub ∨ ub ≤ ua) with h2 | h2
  · have H := Lib.hid (show mn la lb = lb ∧ mx ua ub = ub from ⟨if_pos h1, if_pos h2⟩)
    go_enter Try.func39, Try.ntmps39
    go_wp2_with fail
    refine bodyPost_ret (v := spanV lb ub) (by simp [results, Try.results39, go_sem]) rfl ⟨by rw [H.out.1, H.out.2], HBB.out _ _ _⟩
  · have H := Lib.hid (show mn la lb = lb ∧ mx ua ub = ua from ⟨if_pos h1, if_neg (by omega)⟩)
    go_enter Try.func39, Try.ntmps39
    go_wp2_with fail
    refine bodyPost_ret (v := spanV lb ua) (by simp [results, Try.results39, go_sem]) rfl ⟨by rw [H.out.1, H.out.2], HBB.out _ _ _⟩
  · have H := Lib.hid (show mn la lb = la ∧ mx ua ub = ub from ⟨if_neg (by omega), if_pos h2⟩)
    go_enter Try.func39, Try.ntmps39
    go_wp2_with fail
    refine bodyPost_ret (v := spanV la ub) (by simp [results, Try.results39, go_sem]) rfl ⟨by rw [H.out.1, H.out.2], HBB.out _ _ _⟩
  · have H := Lib.hid (show mn la lb = la ∧ mx ua ub = ua from ⟨if_neg (by omega), if_neg (by omega)⟩)
    go_enter Try.func39, Try.ntmps39
    go_wp2_with fail
    refine bodyPost_ret (v := spanV la ua) (by simp [results, Try.results39, go_sem]) rfl ⟨by rw [H.out.1, H.out.2], HBB.out _ _ _⟩

set_option maxRecDepth 100000 in
set_option maxHeartbeats 1600000 in
theorem sjoin_any (la ua lb ub : Int) (w : World) :
    Calls Try.prog 28 #[spanV la ua, spanV lb ub] w fun e w' => e = .returned (spE (joinL la ua lb ub) (joinH la ua lb ub) (joinE la ua lb ub)) ∧ Below w.heap.size w w' := by
  go_enter Try.func28, Try.ntmps28
  go_wp2_with fail
  refine (bsp_any _ _ _ _ _).mono ?_
  rintro e w1 ⟨rfl, hb1⟩
  have a0 : w1.cell? ⟨w.heap.size, 0, none⟩ = some (.int .i64 la) := carry hb1 (by go_simp)
  have a1 : w1.cell? ⟨w.heap.size, 1, none⟩ = some (.int .i64 ua) := carry hb1 (by go_simp)
  have b0 : w1.cell? ⟨w.heap.size + 1, 0, none⟩ = some (.int .i64 lb) := carry hb1 (by go_simp)
  have b1 : w1.cell? ⟨w.heap.size + 1, 1, none⟩ = some (.int .i64 ub) := carry hb1 (by go_simp)
  have r0 : w1.cell? ⟨w.heap.size + 1 + 1, 0, none⟩ = some (.int .i64 0) := carry hb1 (by go_simp)
  have r1 : w1.cell? ⟨w.heap.size + 1 + 1, 1, none⟩ = some (.int .i64 0) := carry hb1 (by go_simp)
  have f0 : w1.frozen? ⟨w.heap.size + 1 + 1, 0, none⟩ = false := carryF hb1 (v := .int .i64 0) (by go_simp) (by go_simp)
  have f1 : w1.frozen? ⟨w.heap.size + 1 + 1, 1, none⟩ = false := carryF hb1 (v := .int .i64 0) (by go_simp) (by go_simp)
  have hz1 : w.heap.size + 1 + 1 < w1.heap.size := by have := hb1.size; simp at this; omega
  have HBB := Lib.hid ((by repeat (first | exact Below.refl _ _ | refine Below.alloc ?_ (by simp <;> omega) _) : Below w.heap.size w (((w.alloc _).alloc _).alloc _)).trans (hb1.mono (by simp <;> omega)))
  clear hb1
  rw [show (vsp la ua && vsp lb ub) = bsp la ua lb ub from rfl]
  cases hv : bsp la ua lb ub
  · have H := Lib.hid (show joinL la ua lb ub = 0 ∧ joinH la ua lb ub = 0 ∧ joinE la ua lb ub = 1 from by simp [joinL, joinH, joinE, hv])
    clear hv
    go_wp2_with fail
    refine bodyPost_ret (v := spE (0) (0) (1)) ?_ rfl ⟨by rw [H.out.1, H.out.2.1, H.out.2.2], ?_⟩
    · simp [results, Try.results28, go_sem, r0, r1]
    · exact (HBB.out.setCell (p := ⟨w.heap.size + 1 + 1, 0, none⟩) (by show w.heap.size ≤ w.heap.size + 1 + 1; omega) _).setCell (p := ⟨w.heap.size + 1 + 1, 1, none⟩) (by show w.heap.size ≤ w.heap.size + 1 + 1; omega) _
  · have H := Lib.hid (show joinL la ua lb ub = mn la lb ∧ joinH la ua lb ub = mx ua ub ∧ joinE la ua lb ub = 0 from by simp [joinL, joinH, joinE, hv])
    clear hv
    go_wp2_with fail
    refine (around_any _ _ _ _ _).mono ?_
    rintro e w2 ⟨rfl, hb2⟩
    have r0 : w2.cell? ⟨w.heap.size + 1 + 1, 0, none⟩ = some (.int .i64 0) := carry hb2 r0
    have r1 : w2.cell? ⟨w.heap.size + 1 + 1, 1, none⟩ = some (.int .i64 0) := carry hb2 r1
    have f0 : w2.frozen? ⟨w.heap.size + 1 + 1, 0, none⟩ = false := carryF hb2 (by assumption) f0
    have f1 : w2.frozen? ⟨w.heap.size + 1 + 1, 1, none⟩ = false := carryF hb2 (by assumption) f1
    have HBB := Lib.hid (HBB.out.trans (hb2.mono (by omega)))
    clear hb2
    go_wp2_with fail
    refine bodyPost_ret (v := spE (mn la lb) (mx ua ub) (0)) ?_ rfl ⟨by rw [H.out.1, H.out.2.1, H.out.2.2], ?_⟩
    · simp [results, Try.results28, go_sem, r0, r1]
    · exact (HBB.out.setCell (p := ⟨w.heap.size + 1 + 1, 0, none⟩) (by show w.heap.size ≤ w.heap.size + 1 + 1; omega) _).setCell (p := ⟨w.heap.size + 1 + 1, 1, none⟩) (by show w.heap.size ≤ w.heap.size + 1 + 1; omega) _

set_option maxRecDepth 100000 in
set_option maxHeartbeats 1600000 in
theorem scmp_any (la ua lb ub : Int) (w : World) :
    Calls Try.prog 25 #[spanV la ua, spanV lb ub] w fun e w' => e = .returned (spE (scmpL la ua lb ub) (scmpH la ua lb ub) (joinE la ua lb ub)) ∧ Below w.heap.size w w' := by
  go_enter Try.func25, Try.ntmps25
  go_wp2_with fail
  refine (bsp_any _ _ _ _ _).mono ?_
  rintro e w1 ⟨rfl, hb1⟩
  have a0 : w1.cell? ⟨w.heap.size, 0, none⟩ = some (.int .i64 la) := carry hb1 (by go_simp)
  have a1 : w1.cell? ⟨w.heap.size, 1, none⟩ = some (.int .i64 ua) := carry hb1 (by go_simp)
  have b0 : w1.cell? ⟨w.heap.size + 1, 0, none⟩ = some (.int .i64 lb) := carry hb1 (by go_simp)
  have b1 : w1.cell? ⟨w.heap.size + 1, 1, none⟩ = some (.int .i64 ub) := carry hb1 (by go_simp)
  have r0 : w1.cell? ⟨w.heap.size + 1 + 1, 0, none⟩ = some (.int .i64 0) := carry hb1 (by go_simp)
  have r1 : w1.cell? ⟨w.heap.size + 1 + 1, 1, none⟩ = some (.int .i64 0) := carry hb1 (by go_simp)
  have f0 : w1.frozen? ⟨w.heap.size + 1 + 1, 0, none⟩ = false := carryF hb1 (v := .int .i64 0) (by go_simp) (by go_simp)
  have f1 : w1.frozen? ⟨w.heap.size + 1 + 1, 1, none⟩ = false := carryF hb1 (v := .int .i64 0) (by go_simp) (by go_simp)
  have hz1 : w.heap.size + 1 + 1 < w1.heap.size := by have := hb1.size; simp at this; omega
  have HBB := Lib.hid ((by repeat (first | exact Below.refl _ _ | refine Below.alloc ?_ (by simp <;> omega) _) : Below w.heap.size w (((w.alloc _).alloc _).alloc _)).trans (hb1.mono (by simp <;> omega)))
  clear hb1
  rw [show (vsp la ua && vsp lb ub) = bsp la ua lb ub from rfl]
  cases hv : bsp la ua lb ub
  · have H := Lib.hid (show scmpL la ua lb ub = 0 ∧ scmpH la ua lb ub = 0 ∧ joinE la ua lb ub = 1 from by simp [scmpL, scmpH, joinE, hv])
    clear hv
    go_wp2_with fail
    refine bodyPost_ret (v := spE (0) (0) (1)) ?_ rfl ⟨by rw [H.out.1, H.out.2.1, H.out.2.2], ?_⟩
    · simp [results, Try.results25, go_sem, r0, r1]
    · exact (HBB.out.setCell (p := ⟨w.heap.size + 1 + 1, 0, none⟩) (by show w.heap.size ≤ w.heap.size + 1 + 1; omega) _).setCell (p := ⟨w.heap.size + 1 + 1, 1, none⟩) (by show w.heap.size ≤ w.heap.size + 1 + 1; omega) _
  · have H := Lib.hid (show scmpL la ua lb ub = low4 (cmpF la ua lb ub) ∧ scmpH la ua lb ub = high4 (cmpF la ua lb ub) ∧ joinE la ua lb ub = 0 from by simp [scmpL, scmpH, joinE, hv])
    clear hv
    go_wp2_with fail
    refine (ext_any 45 (enters_of Try.func45 (by kernel_rfl) rfl) la ua lb ub (cmpF la ua lb ub) _ (fun p q w => compare_any _ _ w)).mono ?_
    rintro e w2 ⟨rfl, hb2⟩
    have r0 : w2.cell? ⟨w.heap.size + 1 + 1, 0, none⟩ = some (.int .i64 0) := carry hb2 r0
    have r1 : w2.cell? ⟨w.heap.size + 1 + 1, 1, none⟩ = some (.int .i64 0) := carry hb2 r1
    have f0 : w2.frozen? ⟨w.heap.size + 1 + 1, 0, none⟩ = false := carryF hb2 (by assumption) f0
    have f1 : w2.frozen? ⟨w.heap.size + 1 + 1, 1, none⟩ = false := carryF hb2 (by assumption) f1
    have HBB := Lib.hid (HBB.out.trans (hb2.mono (by omega)))
    clear hb2
    generalize low4 (cmpF la ua lb ub) = l at *
    generalize high4 (cmpF la ua lb ub) = h at *
    go_wp2_with fail
    refine bodyPost_ret (v := spE (l) (h) (0)) ?_ rfl ⟨by rw [H.out.1, H.out.2.1, H.out.2.2], ?_⟩
    · simp [results, Try.results25, go_sem, r0, r1]
    · exact (HBB.out.setCell (p := ⟨w.heap.size + 1 + 1, 0, none⟩) (by show w.heap.size ≤ w.heap.size + 1 + 1; omega) _).setCell (p := ⟨w.heap.size + 1 + 1, 1, none⟩) (by show w.heap.size ≤ w.heap.size + 1 + 1; omega) _

set_option maxRecDepth 100000 in
set_option maxHeartbeats 1600000 in
theorem smeet_any (la ua lb ub : Int) (w : World) :
    Calls Try.prog 27 #[spanV la ua, spanV lb ub] w fun e w' => e = .returned (spE (meetL la ua lb ub) (meetH la ua lb ub) (meetE la ua lb ub)) ∧ Below w.heap.size w w' := by
  go_enter Try.func27, Try.ntmps27
  go_wp2_with fail
  refine (bsp_any _ _ _ _ _).mono ?_
  rintro e w1 ⟨rfl, hb1⟩
  have a0 : w1.cell? ⟨w.heap.size, 0, none⟩ = some (.int .i64 la) := carry hb1 (by go_simp)
  have a1 : w1.cell? ⟨w.heap.size, 1, none⟩ = some (.int .i64 ua) := carry hb1 (by go_simp)
  have b0 : w1.cell? ⟨w.heap.size + 1, 0, none⟩ = some (.int .i64 lb) := carry hb1 (by go_simp)
  have b1 : w1.cell? ⟨w.heap.size + 1, 1, none⟩ = some (.int .i64 ub) := carry hb1 (by go_simp)
  have r0 : w1.cell? ⟨w.heap.size + 1 + 1, 0, none⟩ = some (.int .i64 0) := carry hb1 (by go_simp)
  have r1 : w1.cell? ⟨w.heap.size + 1 + 1, 1, none⟩ = some (.int .i64 0) := carry hb1 (by go_simp)
  have f0 : w1.frozen? ⟨w.heap.size + 1 + 1, 0, none⟩ = false := carryF hb1 (v := .int .i64 0) (by go_simp) (by go_simp)
  have f1 : w1.frozen? ⟨w.heap.size + 1 + 1, 1, none⟩ = false := carryF hb1 (v := .int .i64 0) (by go_simp) (by go_simp)
  have hz1 : w.heap.size + 1 + 1 < w1.heap.size := by have := hb1.size; simp at this; omega
  have HBB := Lib.hid ((by repeat (first | exact Below.refl _ _ | refine Below.alloc ?_ (by simp <;> omega) _) : Below w.heap.size w (((w.alloc _).alloc _).alloc _)).trans (hb1.mono (by simp <;> omega)))
  clear hb1
  rw [show (vsp la ua && vsp lb ub) = bsp la ua lb ub from rfl]
  cases hv : bsp la ua lb ub
  · have H := Lib.hid (show meetL la ua lb ub = 0 ∧ meetH la ua lb ub = 0 ∧ meetE la ua lb ub = 1 from by simp [meetL, meetH, meetE, hv])
    clear hv
    go_wp2_with fail
    refine bodyPost_ret (v := spE (0) (0) (1)) ?_ rfl ⟨by rw [H.out.1, H.out.2.1, H.out.2.2], ?_⟩
    · simp [results, Try.results27, go_sem, r0, r1]
    · exact (HBB.out.setCell (p := ⟨w.heap.size + 1 + 1, 0, none⟩) (by show w.heap.size ≤ w.heap.size + 1 + 1; omega) _).setCell (p := ⟨w.heap.size + 1 + 1, 1, none⟩) (by show w.heap.size ≤ w.heap.size + 1 + 1; omega) _
  · have HV := Lib.hid hv
    clear hv
    rcases (by omega : la < lb ∨ lb ≤ la) with h1 | h1 <;> rcases (by omega : ub < ua ∨ ua ≤ ub) with h2 | h2
    · have HM := Lib.hid (show mx la lb = lb ∧ mn ua ub = ub from ⟨if_pos h1, if_pos h2⟩)
      have HOK := Lib.hid (show vsp lb ub = meetOK la ua lb ub from by rw [meetOK, HM.out.1, HM.out.2])
      go_wp2_with fail
      refine (vspan_any _ _ _).mono ?_
      rintro e w2 ⟨rfl, hb2⟩
      rw [HOK.out]
      cases hk : meetOK la ua lb ub
      · have H := Lib.hid (show meetL la ua lb ub = 0 ∧ meetH la ua lb ub = 0 ∧ meetE la ua lb ub = 5 from by simp [meetL, meetH, meetE, HV.out, hk])
        clear hk
        have r0 : w2.cell? ⟨w.heap.size + 1 + 1, 0, none⟩ = some (.int .i64 0) := carry hb2 (by go_simp)
        have r1 : w2.cell? ⟨w.heap.size + 1 + 1, 1, none⟩ = some (.int .i64 0) := carry hb2 (by go_simp)
        have f0 : w2.frozen? ⟨w.heap.size + 1 + 1, 0, none⟩ = false := carryF hb2 (v := .int .i64 0) (by go_simp) (by go_simp)
        have f1 : w2.frozen? ⟨w.heap.size + 1 + 1, 1, none⟩ = false := carryF hb2 (v := .int .i64 0) (by go_simp) (by go_simp)
        have x0 : w2.cell? ⟨w1.heap.size, 0, none⟩ = some (.int .i64 (lb)) := carry hb2 (by go_simp)
        have x1 : w2.cell? ⟨w1.heap.size, 1, none⟩ = some (.int .i64 (ub)) := carry hb2 (by go_simp)
        have HBB := Lib.hid ((HBB.out.alloc (by omega) (.cells #[.int .i64 (lb), .int .i64 (ub)] 23)).trans (hb2.mono (by simp; omega)))
        clear hb2
        go_wp2_with fail
        refine bodyPost_ret (v := spE (0) (0) (5)) ?_ rfl ⟨by rw [H.out.1, H.out.2.1, H.out.2.2], ?_⟩
        · simp [results, Try.results27, go_sem, r0, r1]
        · exact (HBB.out.setCell (p := ⟨w.heap.size + 1 + 1, 0, none⟩) (by show w.heap.size ≤ w.heap.size + 1 + 1; omega) _).setCell (p := ⟨w.heap.size + 1 + 1, 1, none⟩) (by show w.heap.size ≤ w.heap.size + 1 + 1; omega) _
      · have H := Lib.hid (show meetL la ua lb ub = lb ∧ meetH la ua lb ub = ub ∧ meetE la ua lb ub = 0 from by simp [meetL, meetH, meetE, HV.out, hk, HM.out.1, HM.out.2])
        clear hk
        have r0 : w2.cell? ⟨w.heap.size + 1 + 1, 0, none⟩ = some (.int .i64 0) := carry hb2 (by go_simp)
        have r1 : w2.cell? ⟨w.heap.size + 1 + 1, 1, none⟩ = some (.int .i64 0) := carry hb2 (by go_simp)
        have f0 : w2.frozen? ⟨w.heap.size + 1 + 1, 0, none⟩ = false := carryF hb2 (v := .int .i64 0) (by go_simp) (by go_simp)
        have f1 : w2.frozen? ⟨w.heap.size + 1 + 1, 1, none⟩ = false := carryF hb2 (v := .int .i64 0) (by go_simp) (by go_simp)
        have x0 : w2.cell? ⟨w1.heap.size, 0, none⟩ = some (.int .i64 (lb)) := carry hb2 (by go_simp)
        have x1 : w2.cell? ⟨w1.heap.size, 1, none⟩ = some (.int .i64 (ub)) := carry hb2 (by go_simp)
        have HBB := Lib.hid ((HBB.out.alloc (by omega) (.cells #[.int .i64 (lb), .int .i64 (ub)] 23)).trans (hb2.mono (by simp; omega)))
        clear hb2
        go_wp2_with fail
        refine bodyPost_ret (v := spE (lb) (ub) (0)) ?_ rfl ⟨by rw [H.out.1, H.out.2.1, H.out.2.2], ?_⟩
        · simp [results, Try.results27, go_sem, r0, r1]
        · exact (HBB.out.setCell (p := ⟨w.heap.size + 1 + 1, 0, none⟩) (by show w.heap.size ≤ w.heap.size + 1 + 1; omega) _).setCell (p := ⟨w.heap.size + 1 + 1, 1, none⟩) (by show w.heap.size ≤ w.heap.size + 1 + 1; omega) _
    · have HM := Lib.hid (show mx la lb = lb ∧ mn ua ub = ua from ⟨if_pos h1, if_neg (by omega)⟩)
      have HOK := Lib.hid (show vsp lb ua = meetOK la ua lb ub from by rw [meetOK, HM.out.1, HM.out.2])
      go_wp2_with fail
      refine (vspan_any _ _ _).mono ?_
      rintro e w2 ⟨rfl, hb2⟩
      rw [HOK.out]
      cases hk : meetOK la ua lb ub
      · have H := Lib.hid (show meetL la ua lb ub = 0 ∧ meetH la ua lb ub = 0 ∧ meetE la ua lb ub = 5 from by simp [meetL, meetH, meetE, HV.out, hk])
        clear hk
        have r0 : w2.cell? ⟨w.heap.size + 1 + 1, 0, none⟩ = some (.int .i64 0) := carry hb2 (by go_simp)
        have r1 : w2.cell? ⟨w.heap.size + 1 + 1, 1, none⟩ = some (.int .i64 0) := carry hb2 (by go_simp)
        have f0 : w2.frozen? ⟨w.heap.size + 1 + 1, 0, none⟩ = false := carryF hb2 (v := .int .i64 0) (by go_simp) (by go_simp)
        have f1 : w2.frozen? ⟨w.heap.size + 1 + 1, 1, none⟩ = false := carryF hb2 (v := .int .i64 0) (by go_simp) (by go_simp)
        have x0 : w2.cell? ⟨w1.heap.size, 0, none⟩ = some (.int .i64 (lb)) := carry hb2 (by go_simp)
        have x1 : w2.cell? ⟨w1.heap.size, 1, none⟩ = some (.int .i64 (ua)) := carry hb2 (by go_simp)
        have HBB := Lib.hid ((HBB.out.alloc (by omega) (.cells #[.int .i64 (lb), .int .i64 (ua)] 23)).trans (hb2.mono (by simp; omega)))
        clear hb2
        go_wp2_with fail
        refine bodyPost_ret (v := spE (0) (0) (5)) ?_ rfl ⟨by rw [H.out.1, H.out.2.1, H.out.2.2], ?_⟩
        · simp [results, Try.results27, go_sem, r0, r1]
        · exact (HBB.out.setCell (p := ⟨w.heap.size + 1 + 1, 0, none⟩) (by show w.heap.size ≤ w.heap.size + 1 + 1; omega) _).setCell (p := ⟨w.heap.size + 1 + 1, 1, none⟩) (by show w.heap.size ≤ w.heap.size + 1 + 1; omega) _
      · have H := Lib.hid (show meetL la ua lb ub = lb ∧ meetH la ua lb ub = ua ∧ meetE la ua lb ub = 0 from by simp [meetL, meetH, meetE, HV.out, hk, HM.out.1, HM.out.2])
        clear hk
        have r0 : w2.cell? ⟨w.heap.size + 1 + 1, 0, none⟩ = some (.int .i64 0) := carry hb2 (by go_simp)
        have r1 : w2.cell? ⟨w.heap.size + 1 + 1, 1, none⟩ = some (.int .i64 0) := carry hb2 (by go_simp)
        have f0 : w2.frozen? ⟨w.heap.size + 1 + 1, 0, none⟩ = false := carryF hb2 (v := .int .i64 0) (by go_simp) (by go_simp)
        have f1 : w2.frozen? ⟨w.heap.size + 1 + 1, 1, none⟩ = false := carryF hb2 (v := .int .i64 0) (by go_simp) (by go_simp)
        have x0 : w2.cell? ⟨w1.heap.size, 0, none⟩ = some (.int .i64 (lb)) := carry hb2 (by go_simp)
        have x1 : w2.cell? ⟨w1.heap.size, 1, none⟩ = some (.int .i64 (ua)) := carry hb2 (by go_simp)
        have HBB := Lib.hid ((HBB.out.alloc (by omega) (.cells #[.int .i64 (lb), .int .i64 (ua)] 23)).trans (hb2.mono (by simp; omega)))
        clear hb2
        go_wp2_with fail
        refine bodyPost_ret (v := spE (lb) (ua) (0)) ?_ rfl ⟨by rw [H.out.1, H.out.2.1, H.out.2.2], ?_⟩
        · simp [results, Try.results27, go_sem, r0, r1]
        · exact (HBB.out.setCell (p := ⟨w.heap.size + 1 + 1, 0, none⟩) (by show w.heap.size ≤ w.heap.size + 1 + 1; omega) _).setCell (p := ⟨w.heap.size + 1 + 1, 1, none⟩) (by show w.heap.size ≤ w.heap.size + 1 + 1; omega) _
    · have HM := Lib.hid (show mx la lb = la ∧ mn ua ub = ub from ⟨if_neg (by omega), if_pos h2⟩)
      have HOK := Lib.hid (show vsp la ub = meetOK la ua lb ub from by rw [meetOK, HM.out.1, HM.out.2])
      go_wp2_with fail
      refine (vspan_any _ _ _).mono ?_
      rintro e w2 ⟨rfl, hb2⟩
      rw [HOK.out]
      cases hk : meetOK la ua lb ub
      · have H := Lib.hid (show meetL la ua lb ub = 0 ∧ meetH la ua lb ub = 0 ∧ meetE la ua lb ub = 5 from by simp [meetL, meetH, meetE, HV.out, hk])
        clear hk
        have r0 : w2.cell? ⟨w.heap.size + 1 + 1, 0, none⟩ = some (.int .i64 0) := carry hb2 (by go_simp)
        have r1 : w2.cell? ⟨w.heap.size + 1 + 1, 1, none⟩ = some (.int .i64 0) := carry hb2 (by go_simp)
        have f0 : w2.frozen? ⟨w.heap.size + 1 + 1, 0, none⟩ = false := carryF hb2 (v := .int .i64 0) (by go_simp) (by go_simp)
        have f1 : w2.frozen? ⟨w.heap.size + 1 + 1, 1, none⟩ = false := carryF hb2 (v := .int .i64 0) (by go_simp) (by go_simp)
        have x0 : w2.cell? ⟨w1.heap.size, 0, none⟩ = some (.int .i64 (la)) := carry hb2 (by go_simp)
        have x1 : w2.cell? ⟨w1.heap.size, 1, none⟩ = some (.int .i64 (ub)) := carry hb2 (by go_simp)
        have HBB := Lib.hid ((HBB.out.alloc (by omega) (.cells #[.int .i64 (la), .int .i64 (ub)] 23)).trans (hb2.mono (by simp; omega)))
        clear hb2
        go_wp2_with fail
        refine bodyPost_ret (v := spE (0) (0) (5)) ?_ rfl ⟨by rw [H.out.1, H.out.2.1, H.out.2.2], ?_⟩
        · simp [results, Try.results27, go_sem, r0, r1]
        · exact (HBB.out.setCell (p := ⟨w.heap.size + 1 + 1, 0, none⟩) (by show w.heap.size ≤ w.heap.size + 1 + 1; omega) _).setCell (p := ⟨w.heap.size + 1 + 1, 1, none⟩) (by show w.heap.size ≤ w.heap.size + 1 + 1; omega) _
      · have H := Lib.hid (show meetL la ua lb ub = la ∧ meetH la ua lb ub = ub ∧ meetE la ua lb ub = 0 from by simp [meetL, meetH, meetE, HV.out, hk, HM.out.1, HM.out.2])
        clear hk
        have r0 : w2.cell? ⟨w.heap.size + 1 + 1, 0, none⟩ = some (.int .i64 0) := carry hb2 (by go_simp)
        have r1 : w2.cell? ⟨w.heap.size + 1 + 1, 1, none⟩ = some (.int .i64 0) := carry hb2 (by go_simp)
        have f0 : w2.frozen? ⟨w.heap.size + 1 + 1, 0, none⟩ = false := carryF hb2 (v := .int .i64 0) (by go_simp) (by go_simp)
        have f1 : w2.frozen? ⟨w.heap.size + 1 + 1, 1, none⟩ = false := carryF hb2 (v := .int .i64 0) (by go_simp) (by go_simp)
        have x0 : w2.cell? ⟨w1.heap.size, 0, none⟩ = some (.int .i64 (la)) := carry hb2 (by go_simp)
        have x1 : w2.cell? ⟨w1.heap.size, 1, none⟩ = some (.int .i64 (ub)) := carry hb2 (by go_simp)
        have HBB := Lib.hid ((HBB.out.alloc (by omega) (.cells #[.int .i64 (la), .int .i64 (ub)] 23)).trans (hb2.mono (by simp; omega)))
        clear hb2
        go_wp2_with fail
        refine bodyPost_ret (v := spE (la) (ub) (0)) ?_ rfl ⟨by rw [H.out.1, H.out.2.1, H.out.2.2], ?_⟩
        · simp [results, Try.results27, go_sem, r0, r1]
        · exact (HBB.out.setCell (p := ⟨w.heap.size + 1 + 1, 0, none⟩) (by show w.heap.size ≤ w.heap.size + 1 + 1; omega) _).setCell (p := ⟨w.heap.size + 1 + 1, 1, none⟩) (by show w.heap.size ≤ w.heap.size + 1 + 1; omega) _
    · have HM := Lib.hid (show mx la lb = la ∧ mn ua ub = ua from ⟨if_neg (by omega), if_neg (by omega)⟩)
      have HOK := Lib.hid (show vsp la ua = meetOK la ua lb ub from by rw [meetOK, HM.out.1, HM.out.2])
      go_wp2_with fail
      refine (vspan_any _ _ _).mono ?_
      rintro e w2 ⟨rfl, hb2⟩
      rw [HOK.out]
      cases hk : meetOK la ua lb ub
      · have H := Lib.hid (show meetL la ua lb ub = 0 ∧ meetH la ua lb ub = 0 ∧ meetE la ua lb ub = 5 from by simp [meetL, meetH, meetE, HV.out, hk])
        clear hk
        have r0 : w2.cell? ⟨w.heap.size + 1 + 1, 0, none⟩ = some (.int .i64 0) := carry hb2 (by go_simp)
        have r1 : w2.cell? ⟨w.heap.size + 1 + 1, 1, none⟩ = some (.int .i64 0) := carry hb2 (by go_simp)
        have f0 : w2.frozen? ⟨w.heap.size + 1 + 1, 0, none⟩ = false := carryF hb2 (v := .int .i64 0) (by go_simp) (by go_simp)
        have f1 : w2.frozen? ⟨w.heap.size + 1 + 1, 1, none⟩ = false := carryF hb2 (v := .int .i64 0) (by go_simp) (by go_simp)
        have x0 : w2.cell? ⟨w1.heap.size, 0, none⟩ = some (.int .i64 (la)) := carry hb2 (by go_simp)
        have x1 : w2.cell? ⟨w1.heap.size, 1, none⟩ = some (.int .i64 (ua)) := carry hb2 (by go_simp)
        have HBB := Lib.hid ((HBB.out.alloc (by omega) (.cells #[.int .i64 (la), .int .i64 (ua)] 23)).trans (hb2.mono (by simp; omega)))
        clear hb2
        go_wp2_with fail
        refine bodyPost_ret (v := spE (0) (0) (5)) ?_ rfl ⟨by rw [H.out.1, H.out.2.1, H.out.2.2], ?_⟩
        · simp [results, Try.results27, go_sem, r0, r1]
        · exact (HBB.out.setCell (p := ⟨w.heap.size + 1 + 1, 0, none⟩) (by show w.heap.size ≤ w.heap.size + 1 + 1; omega) _).setCell (p := ⟨w.heap.size + 1 + 1, 1, none⟩) (by show w.heap.size ≤ w.heap.size + 1 + 1; omega) _
      · have H := Lib.hid (show meetL la ua lb ub = la ∧ meetH la ua lb ub = ua ∧ meetE la ua lb ub = 0 from by simp [meetL, meetH, meetE, HV.out, hk, HM.out.1, HM.out.2])
        clear hk
        have r0 : w2.cell? ⟨w.heap.size + 1 + 1, 0, none⟩ = some (.int .i64 0) := carry hb2 (by go_simp)
        have r1 : w2.cell? ⟨w.heap.size + 1 + 1, 1, none⟩ = some (.int .i64 0) := carry hb2 (by go_simp)
        have f0 : w2.frozen? ⟨w.heap.size + 1 + 1, 0, none⟩ = false := carryF hb2 (v := .int .i64 0) (by go_simp) (by go_simp)
        have f1 : w2.frozen? ⟨w.heap.size + 1 + 1, 1, none⟩ = false := carryF hb2 (v := .int .i64 0) (by go_simp) (by go_simp)
        have x0 : w2.cell? ⟨w1.heap.size, 0, none⟩ = some (.int .i64 (la)) := carry hb2 (by go_simp)
        have x1 : w2.cell? ⟨w1.heap.size, 1, none⟩ = some (.int .i64 (ua)) := carry hb2 (by go_simp)
        have HBB := Lib.hid ((HBB.out.alloc (by omega) (.cells #[.int .i64 (la), .int .i64 (ua)] 23)).trans (hb2.mono (by simp; omega)))
        clear hb2
        go_wp2_with fail
        refine bodyPost_ret (v := spE (la) (ua) (0)) ?_ rfl ⟨by rw [H.out.1, H.out.2.1, H.out.2.2], ?_⟩
        · simp [results, Try.results27, go_sem, r0, r1]
        · exact (HBB.out.setCell (p := ⟨w.heap.size + 1 + 1, 0, none⟩) (by show w.heap.size ≤ w.heap.size + 1 + 1; omega) _).setCell (p := ⟨w.heap.size + 1 + 1, 1, none⟩) (by show w.heap.size ≤ w.heap.size + 1 + 1; omega) _

set_option maxRecDepth 100000 in
set_option maxHeartbeats 1600000 in
theorem rin_any (n l u : Int) (w : World) :
    Calls Try.prog 23 #[.int .i64 n, spanV l u] w fun e w' => e = .returned (.bool (decide (l ≤ n) && decide (n ≤ u))) ∧ Below w.heap.size w w' := by
  have B0 : ∀ o1 : Obj, Below w.heap.size w (w.alloc o1) := fun _ => (Below.refl _ _).alloc (Nat.le_refl _) _
  have HBB := Lib.hid B0
  clear B0
  cases h : decide (l ≤ n)
  · go_enter Try.func23, Try.ntmps23
    go_wp2_with fail
    go_ret
    exact ⟨rfl, HBB.out _⟩
  · go_enter Try.func23, Try.ntmps23
    go_wp2_with fail
    go_ret
    exact ⟨rfl, HBB.out _⟩

set_option maxRecDepth 100000 in
set_option maxHeartbeats 1600000 in
theorem within_any (la ua lb ub : Int) (w : World) :
    Calls Try.prog 29 #[spanV la ua, spanV lb ub] w fun e w' => e = .returned (.bool (decide (lb ≤ la) && decide (ua ≤ ub))) ∧ Below w.heap.size w w' := by
  have B0 : ∀ o1 o2 : Obj, Below w.heap.size w ((w.alloc o1).alloc o2) := fun _ _ => by repeat (first | exact Below.refl _ _ | refine Below.alloc ?_ (by simp <;> omega) _)
  have HBB := Lib.hid B0
  clear B0
  cases h : decide (lb ≤ la)
  · go_enter Try.func29, Try.ntmps29
    go_wp2_with fail
    go_ret
    exact ⟨rfl, HBB.out _ _⟩
  · go_enter Try.func29, Try.ntmps29
    go_wp2_with fail
    go_ret
    exact ⟨rfl, HBB.out _ _⟩

end Go.Proofs.Ytnhieokegidibaa
