/-
  Several texts in one (Num0, Num1, Num2, Num3, Num4, ParseR).
-/
import Derived.Test.YtnmifeiokhpcfaaDoorReB
import Derived.Test.YtnmifeiokhpcfaaDoorShelf
import Derived.Shelf.Strings.SlTrimAscii
import Derived.Test.YtnmifeiokhpcfaaDoorReA

namespace Go.Proofs.YtnmifeiokhpcfaaDoor.re
open Go.RowKit
set_option linter.unusedVariables false

abbrev bs (l : List UInt8) : ByteArray := ⟨l.toArray⟩

def digL : List UInt8 := [48, 49, 50, 51, 52, 53, 54, 55, 56, 57]

theorem dig128 : ∀ b ∈ digL, b.toNat < 128 := by decide

def hdD (l : List UInt8) : List UInt8 := l.takeWhile (digL.contains ·)

def tlD (l : List UInt8) : List UInt8 := l.dropWhile (digL.contains ·)

theorem hd_tl (l : List UInt8) : hdD l ++ tlD l = l := List.takeWhile_append_dropWhile

theorem hd_len (l : List UInt8) : (hdD l).length + (tlD l).length = l.length := by
  have := congrArg List.length (hd_tl l)
  simpa using this

theorem bs_size (l : List UInt8) : (bs l).size = l.length := Lib.size_mk l

theorem bs_take (l : List UInt8) (n : Nat) : (bs l).extract 0 n = bs (l.take n) := by
  rw [Lib.extract_mk]
  simp

theorem hd_take (l : List UInt8) : l.take (hdD l).length = hdD l := by
  have h := hd_tl l
  generalize hdD l = a at *
  generalize tlD l = b at *
  subst h
  simp

set_option maxRecDepth 100000 in
set_option maxHeartbeats 1600000 in
theorem cut_d (l : List UInt8) (w : World) (hl : l.length ≤ 9223372036854775807) :
    Calls Tryd.prog 69 #[.string (bs l)] w fun r w' => r = .returned (.tuple #[.string (bs (hdD l)), .string (bs (tlD l))]) ∧ Below w.heap.size w w' := by
  have HTL : Hid (∀ w, Calls Tryd.prog 71 #[.string (bs l), .string ⟨#[48, 49, 50, 51, 52, 53, 54, 55, 56, 57]⟩] w fun e w' => e = .returned (.string (bs (tlD l))) ∧ Below w.heap.size w w') := Lib.hid (fun w => Any.strings_TrimLeft_laid Tryd.lays161 (by kernel_rfl) (bs l) _ w (by decide) (fun j b h => dig128 b (List.mem_of_getElem? h)))
  have hlen := hd_len l
  have hsz := bs_size l
  have hsz2 := bs_size (tlD l)
  have HEX := Lib.hid (show (bs l).extract 0 (hdD l).length = bs (hdD l) from by rw [bs_take, hd_take])
  generalize bs (tlD l) = t at *
  generalize bs (hdD l) = h at *
  generalize hbl : bs l = s at *
  generalize hn : (hdD l).length = n at *
  clear hbl
  have hln : (l.length : Int) - ((tlD l).length : Int) = (n : Int) := by omega
  go_enter Tryd.func69, Tryd.ntmps69
  go_wp2_with fail
  refine (HTL.out _).mono ?_
  rintro r w1 ⟨rfl, hb1⟩
  go_wp2_with fail
  go_ret2
  exact ⟨by rw [HEX.out]; rfl, hb1⟩

/-- a digit after another one, held at 1000 -/
def exS (e : Int) (c : UInt8) : Int := min (10 * e + (c.toNat - 48 : Nat)) 1000

def exV (l : List UInt8) : Int := l.foldl exS 0

theorem exS_bd (e : Int) (c : UInt8) (h1 : 0 ≤ e) (h2 : e ≤ 1000) : 0 ≤ exS e c ∧ exS e c ≤ 1000 := by
  unfold exS
  omega

theorem exV_bd : ∀ (l : List UInt8) (e : Int), 0 ≤ e → e ≤ 1000 → 0 ≤ l.foldl exS e ∧ l.foldl exS e ≤ 1000
  | [], e, h1, h2 => ⟨h1, h2⟩
  | c :: l, e, h1, h2 => exV_bd l _ (exS_bd e c h1 h2).1 (exS_bd e c h1 h2).2

theorem exV_take (l : List UInt8) (k : Nat) (h : k < l.length) : (l.take (k + 1)).foldl exS 0 = exS ((l.take k).foldl exS 0) l[k] := by
  rw [List.take_succ_eq_append_getElem h, List.foldl_append]
  rfl

def exB (d : ByteArray) : Int := exV d.data.toList

theorem exB_step (d : ByteArray) (k : Nat) (h : k < d.size) : (d.data.toList.take (k + 1)).foldl exS 0 = exS ((d.data.toList.take k).foldl exS 0) d[k] := exV_take d.data.toList k h

theorem hd_dig (l : List UInt8) : ∀ (k : Nat) (h : k < (hdD l).length), 48 ≤ (hdD l)[k].toNat ∧ (hdD l)[k].toNat ≤ 57 := by
  intro k h
  have h1 : (hdD l)[k] ∈ hdD l := List.getElem_mem h
  have h2 : ∀ x ∈ hdD l, digL.contains x = true := fun x hx => by
    have := List.all_takeWhile (p := (digL.contains ·)) (l := l)
    exact List.all_eq_true.1 this x hx
  have h3 := h2 _ h1
  have h4 : ∀ b ∈ digL, 48 ≤ b.toNat ∧ b.toNat ≤ 57 := by decide
  exact h4 _ (by simpa using h3)

def expR (l : List UInt8) : List UInt8 := if Lib.hasPrefix (Lib.trimPrefix l [101]) [45] || Lib.hasPrefix (Lib.trimPrefix l [101]) [43] then (Lib.trimPrefix l [101]).drop 1 else Lib.trimPrefix l [101]

/-- the exponent that the end of a numeric string gives -/
def expF (l : List UInt8) : Option Int :=
  if l = [] then some 0
  else if Lib.hasPrefix l [101] = false ∨ hdD (expR l) = [] ∨ tlD (expR l) ≠ [] then none
  else some (if Lib.hasPrefix (Lib.trimPrefix l [101]) [45] then -(exV (hdD (expR l))) else exV (hdD (expR l)))

set_option maxRecDepth 100000 in
set_option maxHeartbeats 1600000 in
theorem ex_nil (w : World) :
    Calls Tryd.prog 70 #[.string (bs [])] w fun r w' => r = .returned (.tuple #[.int .i64 0, .bool true]) ∧ Below w.heap.size w w' := by
  go_enter Tryd.func70, Tryd.ntmps70
  go_wp2_with fail
  go_ret2
  exact ⟨rfl, Below.refl _ _⟩

set_option maxRecDepth 100000 in
set_option maxHeartbeats 1600000 in
theorem ex_nof_m (s r r2 t : ByteArray) (d : ByteArray) (w : World) (hl : s.size ≤ 9223372036854775807) (hne : s.toList.isEmpty = false) (HCP : Hid (∀ w, Calls Tryd.prog 68 #[.string s, .string ⟨#[101]⟩] w fun e w' => e = .returned (.tuple #[.string r, .bool false]) ∧ w' = w)) (HN : Hid (∀ w, Calls Tryd.prog 55 #[.string r, .string ⟨#[45]⟩] w fun e w' => e = .returned (.bool true) ∧ w' = w)) (hrs : 1 ≤ r.size) (hri : (1 : Int) ≤ (r.size : Int)) (HX : Hid (r.extract 1 r.size = r2)) (HC : Hid (∀ w : World, Calls Tryd.prog 69 #[.string r2] w fun e w' => e = .returned (.tuple #[.string d, .string t]) ∧ Below w.heap.size w w')) :
    Calls Tryd.prog 70 #[.string s] w fun q w' => q = .returned (.tuple #[.int .i64 0, .bool false]) ∧ Below w.heap.size w w' := by
  go_enter Tryd.func70, Tryd.ntmps70
  go_wp2_with fail
  refine (HCP.out _).mono ?_
  rintro q w1 ⟨rfl, rfl⟩
  go_wp2_with fail
  refine (HN.out _).mono ?_
  rintro q w1 ⟨rfl, rfl⟩
  go_wp2_with fail
  rw [HX.out]
  refine (HC.out _).mono ?_
  rintro q w1 ⟨rfl, hb1⟩
  have HBB := Lib.hid hb1
  clear hb1
  go_wp2_with fail
  go_ret2
  exact ⟨rfl, HBB.out⟩

set_option maxRecDepth 100000 in
set_option maxHeartbeats 1600000 in
theorem ex_dem_m (s r r2 t : ByteArray) (d : ByteArray) (w : World) (hl : s.size ≤ 9223372036854775807) (hne : s.toList.isEmpty = false) (HCP : Hid (∀ w, Calls Tryd.prog 68 #[.string s, .string ⟨#[101]⟩] w fun e w' => e = .returned (.tuple #[.string r, .bool true]) ∧ w' = w)) (HN : Hid (∀ w, Calls Tryd.prog 55 #[.string r, .string ⟨#[45]⟩] w fun e w' => e = .returned (.bool true) ∧ w' = w)) (hrs : 1 ≤ r.size) (hri : (1 : Int) ≤ (r.size : Int)) (HX : Hid (r.extract 1 r.size = r2)) (HC : Hid (∀ w : World, Calls Tryd.prog 69 #[.string r2] w fun e w' => e = .returned (.tuple #[.string d, .string t]) ∧ Below w.heap.size w w')) (hd : d.toList.isEmpty = true) :
    Calls Tryd.prog 70 #[.string s] w fun q w' => q = .returned (.tuple #[.int .i64 0, .bool false]) ∧ Below w.heap.size w w' := by
  go_enter Tryd.func70, Tryd.ntmps70
  go_wp2_with fail
  refine (HCP.out _).mono ?_
  rintro q w1 ⟨rfl, rfl⟩
  go_wp2_with fail
  refine (HN.out _).mono ?_
  rintro q w1 ⟨rfl, rfl⟩
  go_wp2_with fail
  rw [HX.out]
  refine (HC.out _).mono ?_
  rintro q w1 ⟨rfl, hb1⟩
  have HBB := Lib.hid hb1
  clear hb1
  go_wp2_with fail
  go_ret2
  exact ⟨rfl, HBB.out⟩

set_option maxRecDepth 100000 in
set_option maxHeartbeats 1600000 in
theorem ex_tne_m (s r r2 t : ByteArray) (d : ByteArray) (w : World) (hl : s.size ≤ 9223372036854775807) (hne : s.toList.isEmpty = false) (HCP : Hid (∀ w, Calls Tryd.prog 68 #[.string s, .string ⟨#[101]⟩] w fun e w' => e = .returned (.tuple #[.string r, .bool true]) ∧ w' = w)) (HN : Hid (∀ w, Calls Tryd.prog 55 #[.string r, .string ⟨#[45]⟩] w fun e w' => e = .returned (.bool true) ∧ w' = w)) (hrs : 1 ≤ r.size) (hri : (1 : Int) ≤ (r.size : Int)) (HX : Hid (r.extract 1 r.size = r2)) (HC : Hid (∀ w : World, Calls Tryd.prog 69 #[.string r2] w fun e w' => e = .returned (.tuple #[.string d, .string t]) ∧ Below w.heap.size w w')) (hd : d.toList.isEmpty = false) (ht : t.toList.isEmpty = false) :
    Calls Tryd.prog 70 #[.string s] w fun q w' => q = .returned (.tuple #[.int .i64 0, .bool false]) ∧ Below w.heap.size w w' := by
  go_enter Tryd.func70, Tryd.ntmps70
  go_wp2_with fail
  refine (HCP.out _).mono ?_
  rintro q w1 ⟨rfl, rfl⟩
  go_wp2_with fail
  refine (HN.out _).mono ?_
  rintro q w1 ⟨rfl, rfl⟩
  go_wp2_with fail
  rw [HX.out]
  refine (HC.out _).mono ?_
  rintro q w1 ⟨rfl, hb1⟩
  have HBB := Lib.hid hb1
  clear hb1
  go_wp2_with fail
  go_ret2
  exact ⟨rfl, HBB.out⟩

set_option maxRecDepth 100000 in
set_option maxHeartbeats 1600000 in
theorem ex_ok_m (s r r2 t : ByteArray) (d : ByteArray) (w : World) (hl : s.size ≤ 9223372036854775807) (hne : s.toList.isEmpty = false) (HCP : Hid (∀ w, Calls Tryd.prog 68 #[.string s, .string ⟨#[101]⟩] w fun e w' => e = .returned (.tuple #[.string r, .bool true]) ∧ w' = w)) (HN : Hid (∀ w, Calls Tryd.prog 55 #[.string r, .string ⟨#[45]⟩] w fun e w' => e = .returned (.bool true) ∧ w' = w)) (hrs : 1 ≤ r.size) (hri : (1 : Int) ≤ (r.size : Int)) (HX : Hid (r.extract 1 r.size = r2)) (HC : Hid (∀ w : World, Calls Tryd.prog 69 #[.string r2] w fun e w' => e = .returned (.tuple #[.string d, .string t]) ∧ Below w.heap.size w w')) (hd : d.toList.isEmpty = false) (HDG : Hid (∀ (k : Nat) (h : k < d.size), 48 ≤ d[k].toNat ∧ d[k].toNat ≤ 57)) (hdl : d.size ≤ 9223372036854775807) (ht : t.toList.isEmpty = true) :
    Calls Tryd.prog 70 #[.string s] w fun q w' => q = .returned (.tuple #[.int .i64 (-(exB d)), .bool true]) ∧ Below w.heap.size w w' := by
  go_enter Tryd.func70, Tryd.ntmps70
  go_wp2_with fail
  refine (HCP.out _).mono ?_
  rintro q w1 ⟨rfl, rfl⟩
  go_wp2_with fail
  refine (HN.out _).mono ?_
  rintro q w1 ⟨rfl, rfl⟩
  go_wp2_with fail
  rw [HX.out]
  refine (HC.out _).mono ?_
  rintro q w1 ⟨rfl, hb1⟩
  have HBB := Lib.hid hb1
  clear hb1
  go_wp2_with fail
  go_loopw [2, 42] (fun e i wr => ∃ (k : Nat) (x : Int), k ≤ d.size ∧ i = .int .i64 k ∧ e = .int .i64 x ∧ x = (d.data.toList.take k).foldl exS 0 ∧ 0 ≤ x ∧ x ≤ 1000 ∧ wr = w1) (fun _ i _ => d.size - (intOf i).toNat)
  case atStart => exact ⟨0, 0, Nat.zero_le _, rfl, rfl, rfl, by decide, by decide, rfl⟩
  case round =>
    obtain ⟨k, x, hk, rfl, rfl, hx, hx0, hx1, rfl⟩ := hrel
    have HV := Lib.hid hx
    clear hx
    by_cases hlt : k < d.size
    · obtain ⟨hb1, hb2⟩ := HDG.out k hlt
      have HS := Lib.hid (exB_step d k hlt)
      rw [← HV.out] at HS
      have hsb := exS_bd x d[k] hx0 hx1
      obtain ⟨y, hy⟩ : ∃ y, y = exS x d[k] := ⟨_, rfl⟩
      rw [← hy] at HS hsb
      have hmn : ∀ w, Sem.run Tryd.prog (Builtin.min_ #[3, 3] 3 #[.int .i64 (10 * x + ((d[k].toNat : Int) - 48)), .int .i64 1000]) w = .ok (.int .i64 y) w := fun w => by
        rw [hy, show exS x d[k] = (if (1000 : Int) < 10 * x + ((d[k].toNat : Int) - 48) then 1000 else 10 * x + ((d[k].toNat : Int) - 48)) from by unfold exS; split <;> omega]
        kernel_rfl
      have HY := Lib.hid hy
      clear hy
      have hi1 : (48 : Int) ≤ (d[k].toNat : Int) := by omega
      have hi2 : (d[k].toNat : Int) ≤ 57 := by omega
      have hki : (k : Int) < (d.size : Int) := by omega
      go_wp2_with fail
      exact ⟨⟨k + 1, y, by omega, by simp, rfl, HS.out.symm, hsb.1, hsb.2, by first | trivial | rfl⟩, by simp [intOf]; omega⟩
    · obtain rfl : k = d.size := by omega
      have HE := Lib.hid (show exB d = x from by rw [HV.out]; unfold exB exV; rw [List.take_of_length_le (by rw [Lib.size_eq]; exact Nat.le_refl _)])
      go_wp2_with fail
      go_ret2
      exact ⟨by rw [HE.out]; rfl, HBB.out⟩

set_option maxRecDepth 100000 in
set_option maxHeartbeats 1600000 in
theorem ex_nof_p (s r r2 t : ByteArray) (d : ByteArray) (w : World) (hl : s.size ≤ 9223372036854775807) (hne : s.toList.isEmpty = false) (HCP : Hid (∀ w, Calls Tryd.prog 68 #[.string s, .string ⟨#[101]⟩] w fun e w' => e = .returned (.tuple #[.string r, .bool false]) ∧ w' = w)) (HN : Hid (∀ w, Calls Tryd.prog 55 #[.string r, .string ⟨#[45]⟩] w fun e w' => e = .returned (.bool false) ∧ w' = w)) (HP : Hid (∀ w, Calls Tryd.prog 55 #[.string r, .string ⟨#[43]⟩] w fun e w' => e = .returned (.bool true) ∧ w' = w)) (hrs : 1 ≤ r.size) (hri : (1 : Int) ≤ (r.size : Int)) (HX : Hid (r.extract 1 r.size = r2)) (HC : Hid (∀ w : World, Calls Tryd.prog 69 #[.string r2] w fun e w' => e = .returned (.tuple #[.string d, .string t]) ∧ Below w.heap.size w w')) :
    Calls Tryd.prog 70 #[.string s] w fun q w' => q = .returned (.tuple #[.int .i64 0, .bool false]) ∧ Below w.heap.size w w' := by
  go_enter Tryd.func70, Tryd.ntmps70
  go_wp2_with fail
  refine (HCP.out _).mono ?_
  rintro q w1 ⟨rfl, rfl⟩
  go_wp2_with fail
  refine (HN.out _).mono ?_
  rintro q w1 ⟨rfl, rfl⟩
  go_wp2_with fail
  refine (HP.out _).mono ?_
  rintro q w1 ⟨rfl, rfl⟩
  go_wp2_with fail
  rw [HX.out]
  refine (HC.out _).mono ?_
  rintro q w1 ⟨rfl, hb1⟩
  have HBB := Lib.hid hb1
  clear hb1
  go_wp2_with fail
  go_ret2
  exact ⟨rfl, HBB.out⟩

set_option maxRecDepth 100000 in
set_option maxHeartbeats 1600000 in
theorem ex_dem_p (s r r2 t : ByteArray) (d : ByteArray) (w : World) (hl : s.size ≤ 9223372036854775807) (hne : s.toList.isEmpty = false) (HCP : Hid (∀ w, Calls Tryd.prog 68 #[.string s, .string ⟨#[101]⟩] w fun e w' => e = .returned (.tuple #[.string r, .bool true]) ∧ w' = w)) (HN : Hid (∀ w, Calls Tryd.prog 55 #[.string r, .string ⟨#[45]⟩] w fun e w' => e = .returned (.bool false) ∧ w' = w)) (HP : Hid (∀ w, Calls Tryd.prog 55 #[.string r, .string ⟨#[43]⟩] w fun e w' => e = .returned (.bool true) ∧ w' = w)) (hrs : 1 ≤ r.size) (hri : (1 : Int) ≤ (r.size : Int)) (HX : Hid (r.extract 1 r.size = r2)) (HC : Hid (∀ w : World, Calls Tryd.prog 69 #[.string r2] w fun e w' => e = .returned (.tuple #[.string d, .string t]) ∧ Below w.heap.size w w')) (hd : d.toList.isEmpty = true) :
    Calls Tryd.prog 70 #[.string s] w fun q w' => q = .returned (.tuple #[.int .i64 0, .bool false]) ∧ Below w.heap.size w w' := by
  go_enter Tryd.func70, Tryd.ntmps70
  go_wp2_with fail
  refine (HCP.out _).mono ?_
  rintro q w1 ⟨rfl, rfl⟩
  go_wp2_with fail
  refine (HN.out _).mono ?_
  rintro q w1 ⟨rfl, rfl⟩
  go_wp2_with fail
  refine (HP.out _).mono ?_
  rintro q w1 ⟨rfl, rfl⟩
  go_wp2_with fail
  rw [HX.out]
  refine (HC.out _).mono ?_
  rintro q w1 ⟨rfl, hb1⟩
  have HBB := Lib.hid hb1
  clear hb1
  go_wp2_with fail
  go_ret2
  exact ⟨rfl, HBB.out⟩

set_option maxRecDepth 100000 in
set_option maxHeartbeats 1600000 in
theorem ex_tne_p (s r r2 t : ByteArray) (d : ByteArray) (w : World) (hl : s.size ≤ 9223372036854775807) (hne : s.toList.isEmpty = false) (HCP : Hid (∀ w, Calls Tryd.prog 68 #[.string s, .string ⟨#[101]⟩] w fun e w' => e = .returned (.tuple #[.string r, .bool true]) ∧ w' = w)) (HN : Hid (∀ w, Calls Tryd.prog 55 #[.string r, .string ⟨#[45]⟩] w fun e w' => e = .returned (.bool false) ∧ w' = w)) (HP : Hid (∀ w, Calls Tryd.prog 55 #[.string r, .string ⟨#[43]⟩] w fun e w' => e = .returned (.bool true) ∧ w' = w)) (hrs : 1 ≤ r.size) (hri : (1 : Int) ≤ (r.size : Int)) (HX : Hid (r.extract 1 r.size = r2)) (HC : Hid (∀ w : World, Calls Tryd.prog 69 #[.string r2] w fun e w' => e = .returned (.tuple #[.string d, .string t]) ∧ Below w.heap.size w w')) (hd : d.toList.isEmpty = false) (ht : t.toList.isEmpty = false) :
    Calls Tryd.prog 70 #[.string s] w fun q w' => q = .returned (.tuple #[.int .i64 0, .bool false]) ∧ Below w.heap.size w w' := by
  go_enter Tryd.func70, Tryd.ntmps70
  go_wp2_with fail
  refine (HCP.out _).mono ?_
  rintro q w1 ⟨rfl, rfl⟩
  go_wp2_with fail
  refine (HN.out _).mono ?_
  rintro q w1 ⟨rfl, rfl⟩
  go_wp2_with fail
  refine (HP.out _).mono ?_
  rintro q w1 ⟨rfl, rfl⟩
  go_wp2_with fail
  rw [HX.out]
  refine (HC.out _).mono ?_
  rintro q w1 ⟨rfl, hb1⟩
  have HBB := Lib.hid hb1
  clear hb1
  go_wp2_with fail
  go_ret2
  exact ⟨rfl, HBB.out⟩

set_option maxRecDepth 100000 in
set_option maxHeartbeats 1600000 in
theorem ex_ok_p (s r r2 t : ByteArray) (d : ByteArray) (w : World) (hl : s.size ≤ 9223372036854775807) (hne : s.toList.isEmpty = false) (HCP : Hid (∀ w, Calls Tryd.prog 68 #[.string s, .string ⟨#[101]⟩] w fun e w' => e = .returned (.tuple #[.string r, .bool true]) ∧ w' = w)) (HN : Hid (∀ w, Calls Tryd.prog 55 #[.string r, .string ⟨#[45]⟩] w fun e w' => e = .returned (.bool false) ∧ w' = w)) (HP : Hid (∀ w, Calls Tryd.prog 55 #[.string r, .string ⟨#[43]⟩] w fun e w' => e = .returned (.bool true) ∧ w' = w)) (hrs : 1 ≤ r.size) (hri : (1 : Int) ≤ (r.size : Int)) (HX : Hid (r.extract 1 r.size = r2)) (HC : Hid (∀ w : World, Calls Tryd.prog 69 #[.string r2] w fun e w' => e = .returned (.tuple #[.string d, .string t]) ∧ Below w.heap.size w w')) (hd : d.toList.isEmpty = false) (HDG : Hid (∀ (k : Nat) (h : k < d.size), 48 ≤ d[k].toNat ∧ d[k].toNat ≤ 57)) (hdl : d.size ≤ 9223372036854775807) (ht : t.toList.isEmpty = true) :
    Calls Tryd.prog 70 #[.string s] w fun q w' => q = .returned (.tuple #[.int .i64 ((exB d)), .bool true]) ∧ Below w.heap.size w w' := by
  go_enter Tryd.func70, Tryd.ntmps70
  go_wp2_with fail
  refine (HCP.out _).mono ?_
  rintro q w1 ⟨rfl, rfl⟩
  go_wp2_with fail
  refine (HN.out _).mono ?_
  rintro q w1 ⟨rfl, rfl⟩
  go_wp2_with fail
  refine (HP.out _).mono ?_
  rintro q w1 ⟨rfl, rfl⟩
  go_wp2_with fail
  rw [HX.out]
  refine (HC.out _).mono ?_
  rintro q w1 ⟨rfl, hb1⟩
  have HBB := Lib.hid hb1
  clear hb1
  go_wp2_with fail
  go_loopw [2, 42] (fun e i wr => ∃ (k : Nat) (x : Int), k ≤ d.size ∧ i = .int .i64 k ∧ e = .int .i64 x ∧ x = (d.data.toList.take k).foldl exS 0 ∧ 0 ≤ x ∧ x ≤ 1000 ∧ wr = w1) (fun _ i _ => d.size - (intOf i).toNat)
  case atStart => exact ⟨0, 0, Nat.zero_le _, rfl, rfl, rfl, by decide, by decide, rfl⟩
  case round =>
    obtain ⟨k, x, hk, rfl, rfl, hx, hx0, hx1, rfl⟩ := hrel
    have HV := Lib.hid hx
    clear hx
    by_cases hlt : k < d.size
    · obtain ⟨hb1, hb2⟩ := HDG.out k hlt
      have HS := Lib.hid (exB_step d k hlt)
      rw [← HV.out] at HS
      have hsb := exS_bd x d[k] hx0 hx1
      obtain ⟨y, hy⟩ : ∃ y, y = exS x d[k] := ⟨_, rfl⟩
      rw [← hy] at HS hsb
      have hmn : ∀ w, Sem.run Tryd.prog (Builtin.min_ #[3, 3] 3 #[.int .i64 (10 * x + ((d[k].toNat : Int) - 48)), .int .i64 1000]) w = .ok (.int .i64 y) w := fun w => by
        rw [hy, show exS x d[k] = (if (1000 : Int) < 10 * x + ((d[k].toNat : Int) - 48) then 1000 else 10 * x + ((d[k].toNat : Int) - 48)) from by unfold exS; split <;> omega]
        kernel_rfl
      have HY := Lib.hid hy
      clear hy
      have hi1 : (48 : Int) ≤ (d[k].toNat : Int) := by omega
      have hi2 : (d[k].toNat : Int) ≤ 57 := by omega
      have hki : (k : Int) < (d.size : Int) := by omega
      go_wp2_with fail
      exact ⟨⟨k + 1, y, by omega, by simp, rfl, HS.out.symm, hsb.1, hsb.2, by first | trivial | rfl⟩, by simp [intOf]; omega⟩
    · obtain rfl : k = d.size := by omega
      have HE := Lib.hid (show exB d = x from by rw [HV.out]; unfold exB exV; rw [List.take_of_length_le (by rw [Lib.size_eq]; exact Nat.le_refl _)])
      go_wp2_with fail
      go_ret2
      exact ⟨by rw [HE.out]; rfl, HBB.out⟩

set_option maxRecDepth 100000 in
set_option maxHeartbeats 1600000 in
theorem ex_nof_z (s r r2 t : ByteArray) (d : ByteArray) (w : World) (hl : s.size ≤ 9223372036854775807) (hne : s.toList.isEmpty = false) (HCP : Hid (∀ w, Calls Tryd.prog 68 #[.string s, .string ⟨#[101]⟩] w fun e w' => e = .returned (.tuple #[.string r, .bool false]) ∧ w' = w)) (HN : Hid (∀ w, Calls Tryd.prog 55 #[.string r, .string ⟨#[45]⟩] w fun e w' => e = .returned (.bool false) ∧ w' = w)) (HP : Hid (∀ w, Calls Tryd.prog 55 #[.string r, .string ⟨#[43]⟩] w fun e w' => e = .returned (.bool false) ∧ w' = w)) (HC : Hid (∀ w : World, Calls Tryd.prog 69 #[.string r] w fun e w' => e = .returned (.tuple #[.string d, .string t]) ∧ Below w.heap.size w w')) :
    Calls Tryd.prog 70 #[.string s] w fun q w' => q = .returned (.tuple #[.int .i64 0, .bool false]) ∧ Below w.heap.size w w' := by
  go_enter Tryd.func70, Tryd.ntmps70
  go_wp2_with fail
  refine (HCP.out _).mono ?_
  rintro q w1 ⟨rfl, rfl⟩
  go_wp2_with fail
  refine (HN.out _).mono ?_
  rintro q w1 ⟨rfl, rfl⟩
  go_wp2_with fail
  refine (HP.out _).mono ?_
  rintro q w1 ⟨rfl, rfl⟩
  go_wp2_with fail
  refine (HC.out _).mono ?_
  rintro q w1 ⟨rfl, hb1⟩
  have HBB := Lib.hid hb1
  clear hb1
  go_wp2_with fail
  go_ret2
  exact ⟨rfl, HBB.out⟩

set_option maxRecDepth 100000 in
set_option maxHeartbeats 1600000 in
theorem ex_dem_z (s r r2 t : ByteArray) (d : ByteArray) (w : World) (hl : s.size ≤ 9223372036854775807) (hne : s.toList.isEmpty = false) (HCP : Hid (∀ w, Calls Tryd.prog 68 #[.string s, .string ⟨#[101]⟩] w fun e w' => e = .returned (.tuple #[.string r, .bool true]) ∧ w' = w)) (HN : Hid (∀ w, Calls Tryd.prog 55 #[.string r, .string ⟨#[45]⟩] w fun e w' => e = .returned (.bool false) ∧ w' = w)) (HP : Hid (∀ w, Calls Tryd.prog 55 #[.string r, .string ⟨#[43]⟩] w fun e w' => e = .returned (.bool false) ∧ w' = w)) (HC : Hid (∀ w : World, Calls Tryd.prog 69 #[.string r] w fun e w' => e = .returned (.tuple #[.string d, .string t]) ∧ Below w.heap.size w w')) (hd : d.toList.isEmpty = true) :
    Calls Tryd.prog 70 #[.string s] w fun q w' => q = .returned (.tuple #[.int .i64 0, .bool false]) ∧ Below w.heap.size w w' := by
  go_enter Tryd.func70, Tryd.ntmps70
  go_wp2_with fail
  refine (HCP.out _).mono ?_
  rintro q w1 ⟨rfl, rfl⟩
  go_wp2_with fail
  refine (HN.out _).mono ?_
  rintro q w1 ⟨rfl, rfl⟩
  go_wp2_with fail
  refine (HP.out _).mono ?_
  rintro q w1 ⟨rfl, rfl⟩
  go_wp2_with fail
  refine (HC.out _).mono ?_
  rintro q w1 ⟨rfl, hb1⟩
  have HBB := Lib.hid hb1
  clear hb1
  go_wp2_with fail
  go_ret2
  exact ⟨rfl, HBB.out⟩

set_option maxRecDepth 100000 in
set_option maxHeartbeats 1600000 in
theorem ex_tne_z (s r r2 t : ByteArray) (d : ByteArray) (w : World) (hl : s.size ≤ 9223372036854775807) (hne : s.toList.isEmpty = false) (HCP : Hid (∀ w, Calls Tryd.prog 68 #[.string s, .string ⟨#[101]⟩] w fun e w' => e = .returned (.tuple #[.string r, .bool true]) ∧ w' = w)) (HN : Hid (∀ w, Calls Tryd.prog 55 #[.string r, .string ⟨#[45]⟩] w fun e w' => e = .returned (.bool false) ∧ w' = w)) (HP : Hid (∀ w, Calls Tryd.prog 55 #[.string r, .string ⟨#[43]⟩] w fun e w' => e = .returned (.bool false) ∧ w' = w)) (HC : Hid (∀ w : World, Calls Tryd.prog 69 #[.string r] w fun e w' => e = .returned (.tuple #[.string d, .string t]) ∧ Below w.heap.size w w')) (hd : d.toList.isEmpty = false) (ht : t.toList.isEmpty = false) :
    Calls Tryd.prog 70 #[.string s] w fun q w' => q = .returned (.tuple #[.int .i64 0, .bool false]) ∧ Below w.heap.size w w' := by
  go_enter Tryd.func70, Tryd.ntmps70
  go_wp2_with fail
  refine (HCP.out _).mono ?_
  rintro q w1 ⟨rfl, rfl⟩
  go_wp2_with fail
  refine (HN.out _).mono ?_
  rintro q w1 ⟨rfl, rfl⟩
  go_wp2_with fail
  refine (HP.out _).mono ?_
  rintro q w1 ⟨rfl, rfl⟩
  go_wp2_with fail
  refine (HC.out _).mono ?_
  rintro q w1 ⟨rfl, hb1⟩
  have HBB := Lib.hid hb1
  clear hb1
  go_wp2_with fail
  go_ret2
  exact ⟨rfl, HBB.out⟩

set_option maxRecDepth 100000 in
set_option maxHeartbeats 1600000 in
theorem ex_ok_z (s r r2 t : ByteArray) (d : ByteArray) (w : World) (hl : s.size ≤ 9223372036854775807) (hne : s.toList.isEmpty = false) (HCP : Hid (∀ w, Calls Tryd.prog 68 #[.string s, .string ⟨#[101]⟩] w fun e w' => e = .returned (.tuple #[.string r, .bool true]) ∧ w' = w)) (HN : Hid (∀ w, Calls Tryd.prog 55 #[.string r, .string ⟨#[45]⟩] w fun e w' => e = .returned (.bool false) ∧ w' = w)) (HP : Hid (∀ w, Calls Tryd.prog 55 #[.string r, .string ⟨#[43]⟩] w fun e w' => e = .returned (.bool false) ∧ w' = w)) (HC : Hid (∀ w : World, Calls Tryd.prog 69 #[.string r] w fun e w' => e = .returned (.tuple #[.string d, .string t]) ∧ Below w.heap.size w w')) (hd : d.toList.isEmpty = false) (HDG : Hid (∀ (k : Nat) (h : k < d.size), 48 ≤ d[k].toNat ∧ d[k].toNat ≤ 57)) (hdl : d.size ≤ 9223372036854775807) (ht : t.toList.isEmpty = true) :
    Calls Tryd.prog 70 #[.string s] w fun q w' => q = .returned (.tuple #[.int .i64 ((exB d)), .bool true]) ∧ Below w.heap.size w w' := by
  go_enter Tryd.func70, Tryd.ntmps70
  go_wp2_with fail
  refine (HCP.out _).mono ?_
  rintro q w1 ⟨rfl, rfl⟩
  go_wp2_with fail
  refine (HN.out _).mono ?_
  rintro q w1 ⟨rfl, rfl⟩
  go_wp2_with fail
  refine (HP.out _).mono ?_
  rintro q w1 ⟨rfl, rfl⟩
  go_wp2_with fail
  refine (HC.out _).mono ?_
  rintro q w1 ⟨rfl, hb1⟩
  have HBB := Lib.hid hb1
  clear hb1
  go_wp2_with fail
  go_loopw [2, 42] (fun e i wr => ∃ (k : Nat) (x : Int), k ≤ d.size ∧ i = .int .i64 k ∧ e = .int .i64 x ∧ x = (d.data.toList.take k).foldl exS 0 ∧ 0 ≤ x ∧ x ≤ 1000 ∧ wr = w1) (fun _ i _ => d.size - (intOf i).toNat)
  case atStart => exact ⟨0, 0, Nat.zero_le _, rfl, rfl, rfl, by decide, by decide, rfl⟩
  case round =>
    obtain ⟨k, x, hk, rfl, rfl, hx, hx0, hx1, rfl⟩ := hrel
    have HV := Lib.hid hx
    clear hx
    by_cases hlt : k < d.size
    · obtain ⟨hb1, hb2⟩ := HDG.out k hlt
      have HS := Lib.hid (exB_step d k hlt)
      rw [← HV.out] at HS
      have hsb := exS_bd x d[k] hx0 hx1
      obtain ⟨y, hy⟩ : ∃ y, y = exS x d[k] := ⟨_, rfl⟩
      rw [← hy] at HS hsb
      have hmn : ∀ w, Sem.run Tryd.prog (Builtin.min_ #[3, 3] 3 #[.int .i64 (10 * x + ((d[k].toNat : Int) - 48)), .int .i64 1000]) w = .ok (.int .i64 y) w := fun w => by
        rw [hy, show exS x d[k] = (if (1000 : Int) < 10 * x + ((d[k].toNat : Int) - 48) then 1000 else 10 * x + ((d[k].toNat : Int) - 48)) from by unfold exS; split <;> omega]
        kernel_rfl
      have HY := Lib.hid hy
      clear hy
      have hi1 : (48 : Int) ≤ (d[k].toNat : Int) := by omega
      have hi2 : (d[k].toNat : Int) ≤ 57 := by omega
      have hki : (k : Int) < (d.size : Int) := by omega
      go_wp2_with fail
      exact ⟨⟨k + 1, y, by omega, by simp, rfl, HS.out.symm, hsb.1, hsb.2, by first | trivial | rfl⟩, by simp [intOf]; omega⟩
    · obtain rfl : k = d.size := by omega
      have HE := Lib.hid (show exB d = x from by rw [HV.out]; unfold exB exV; rw [List.take_of_length_le (by rw [Lib.size_eq]; exact Nat.le_refl _)])
      go_wp2_with fail
      go_ret2
      exact ⟨by rw [HE.out]; rfl, HBB.out⟩

end Go.Proofs.YtnmifeiokhpcfaaDoor.re

namespace Go.Proofs.YtnmifeiokhpcfaaDoor.re
open Go.RowKit
set_option linter.unusedVariables false

def exO (l : List UInt8) : Value := match expF l with | some e => .tuple #[.int .i64 e, .bool true] | none => .tuple #[.int .i64 0, .bool false]

theorem ne_iff (l : List UInt8) : (bs l).toList.isEmpty = l.isEmpty := by simp

theorem trim_len (l p : List UInt8) : (Lib.trimPrefix l p).length ≤ l.length := by
  unfold Lib.trimPrefix
  split
  · simp
  · exact Nat.le_refl _

theorem pre_pos (l : List UInt8) (c : UInt8) (h : Lib.hasPrefix l [c] = true) : 1 ≤ l.length := by
  cases l with
  | nil => simp [Lib.hasPrefix] at h
  | cons a l => simp

theorem bs_drop (l : List UInt8) (n : Nat) (h : n = l.length) : (bs l).extract 1 n = bs (l.drop 1) := by
  rw [Lib.extract_mk, List.take_of_length_le (by simp; omega)]

theorem hd_le (l : List UInt8) : (hdD l).length ≤ l.length := by have := hd_len l; omega

theorem bs_hd_dig (l : List UInt8) : ∀ (k : Nat) (h : k < (bs (hdD l)).size), 48 ≤ ((bs (hdD l))[k]'h).toNat ∧ ((bs (hdD l))[k]'h).toNat ≤ 57 := fun k h => hd_dig l k (by rw [bs_size] at h; exact h)

theorem exo_m (l : List UInt8) (w : World) (hl : l.length ≤ 9223372036854775807) (hne : l ≠ []) (hn : Lib.hasPrefix (Lib.trimPrefix l [101]) [45] = true) :
    Calls Tryd.prog 70 #[.string (bs l)] w fun q w' => q = .returned (exO l) ∧ Below w.heap.size w w' := by
  have hR : expR l = ((Lib.trimPrefix l [101]).drop 1) := by simp [expR, hn]
  cases hf : Lib.hasPrefix l [101]
  · have e : exO l = .tuple #[.int .i64 0, .bool false] := by simp [exO, expF, hne, hf]
    rw [e]
    exact ex_nof_m (bs l) (bs (Lib.trimPrefix l [101])) (bs ((Lib.trimPrefix l [101]).drop 1)) (bs (tlD ((Lib.trimPrefix l [101]).drop 1))) (bs (hdD ((Lib.trimPrefix l [101]).drop 1))) w (by rw [bs_size]; exact hl) (by rw [ne_iff]; simpa using hne) (Lib.hid (fun w => by have := Tryd.strings_CutPrefix (bs l) ⟨#[101]⟩ w; simp only [hf] at this; exact this)) (Lib.hid (fun w => by have := Tryd.strings_HasPrefix (bs (Lib.trimPrefix l [101])) ⟨#[45]⟩ w; simp only [hn] at this; exact this)) (by rw [bs_size]; exact pre_pos _ _ hn) (by rw [bs_size]; have := pre_pos _ _ hn; omega) (Lib.hid (bs_drop _ _ (bs_size _))) (Lib.hid (fun w => cut_d ((Lib.trimPrefix l [101]).drop 1) w (by have := trim_len l [101]; simp; omega)))
  · by_cases hd : hdD ((Lib.trimPrefix l [101]).drop 1) = []
    · have e : exO l = .tuple #[.int .i64 0, .bool false] := by unfold exO expF; rw [if_neg hne, hR, if_pos (Or.inr (Or.inl hd))]
      rw [e]
      exact ex_dem_m (bs l) (bs (Lib.trimPrefix l [101])) (bs ((Lib.trimPrefix l [101]).drop 1)) (bs (tlD ((Lib.trimPrefix l [101]).drop 1))) (bs (hdD ((Lib.trimPrefix l [101]).drop 1))) w (by rw [bs_size]; exact hl) (by rw [ne_iff]; simpa using hne) (Lib.hid (fun w => by have := Tryd.strings_CutPrefix (bs l) ⟨#[101]⟩ w; simp only [hf] at this; exact this)) (Lib.hid (fun w => by have := Tryd.strings_HasPrefix (bs (Lib.trimPrefix l [101])) ⟨#[45]⟩ w; simp only [hn] at this; exact this)) (by rw [bs_size]; exact pre_pos _ _ hn) (by rw [bs_size]; have := pre_pos _ _ hn; omega) (Lib.hid (bs_drop _ _ (bs_size _))) (Lib.hid (fun w => cut_d ((Lib.trimPrefix l [101]).drop 1) w (by have := trim_len l [101]; simp; omega))) (by rw [hd, ne_iff]; rfl)
    · by_cases ht : tlD ((Lib.trimPrefix l [101]).drop 1) = []
      · have e : exO l = .tuple #[.int .i64 (-(exV (hdD ((Lib.trimPrefix l [101]).drop 1)))), .bool true] := by unfold exO expF; rw [if_neg hne, hR, if_neg (by rw [hf]; intro q; rcases q with q | q | q <;> first | exact hd q | exact q ht | cases q), hn]; rfl
        rw [e]
        exact ex_ok_m (bs l) (bs (Lib.trimPrefix l [101])) (bs ((Lib.trimPrefix l [101]).drop 1)) (bs (tlD ((Lib.trimPrefix l [101]).drop 1))) (bs (hdD ((Lib.trimPrefix l [101]).drop 1))) w (by rw [bs_size]; exact hl) (by rw [ne_iff]; simpa using hne) (Lib.hid (fun w => by have := Tryd.strings_CutPrefix (bs l) ⟨#[101]⟩ w; simp only [hf] at this; exact this)) (Lib.hid (fun w => by have := Tryd.strings_HasPrefix (bs (Lib.trimPrefix l [101])) ⟨#[45]⟩ w; simp only [hn] at this; exact this)) (by rw [bs_size]; exact pre_pos _ _ hn) (by rw [bs_size]; have := pre_pos _ _ hn; omega) (Lib.hid (bs_drop _ _ (bs_size _))) (Lib.hid (fun w => cut_d ((Lib.trimPrefix l [101]).drop 1) w (by have := trim_len l [101]; simp; omega))) (by rw [ne_iff]; simpa using hd) (Lib.hid (bs_hd_dig _)) (by rw [bs_size]; have h1 := hd_le ((Lib.trimPrefix l [101]).drop 1); have h2 := trim_len l [101]; have h3 : ((Lib.trimPrefix l [101]).drop 1).length ≤ (Lib.trimPrefix l [101]).length := (by first | exact Nat.le_refl _ | (simp; done) | (simp; omega)); omega) (by rw [ht, ne_iff]; rfl)
      · have e : exO l = .tuple #[.int .i64 0, .bool false] := by unfold exO expF; rw [if_neg hne, hR, if_pos (Or.inr (Or.inr ht))]
        rw [e]
        exact ex_tne_m (bs l) (bs (Lib.trimPrefix l [101])) (bs ((Lib.trimPrefix l [101]).drop 1)) (bs (tlD ((Lib.trimPrefix l [101]).drop 1))) (bs (hdD ((Lib.trimPrefix l [101]).drop 1))) w (by rw [bs_size]; exact hl) (by rw [ne_iff]; simpa using hne) (Lib.hid (fun w => by have := Tryd.strings_CutPrefix (bs l) ⟨#[101]⟩ w; simp only [hf] at this; exact this)) (Lib.hid (fun w => by have := Tryd.strings_HasPrefix (bs (Lib.trimPrefix l [101])) ⟨#[45]⟩ w; simp only [hn] at this; exact this)) (by rw [bs_size]; exact pre_pos _ _ hn) (by rw [bs_size]; have := pre_pos _ _ hn; omega) (Lib.hid (bs_drop _ _ (bs_size _))) (Lib.hid (fun w => cut_d ((Lib.trimPrefix l [101]).drop 1) w (by have := trim_len l [101]; simp; omega))) (by rw [ne_iff]; simpa using hd) (by rw [ne_iff]; simpa using ht)

theorem exo_p (l : List UInt8) (w : World) (hl : l.length ≤ 9223372036854775807) (hne : l ≠ []) (hn : Lib.hasPrefix (Lib.trimPrefix l [101]) [45] = false) (hp : Lib.hasPrefix (Lib.trimPrefix l [101]) [43] = true) :
    Calls Tryd.prog 70 #[.string (bs l)] w fun q w' => q = .returned (exO l) ∧ Below w.heap.size w w' := by
  have hR : expR l = ((Lib.trimPrefix l [101]).drop 1) := by simp [expR, hn, hp]
  cases hf : Lib.hasPrefix l [101]
  · have e : exO l = .tuple #[.int .i64 0, .bool false] := by simp [exO, expF, hne, hf]
    rw [e]
    exact ex_nof_p (bs l) (bs (Lib.trimPrefix l [101])) (bs ((Lib.trimPrefix l [101]).drop 1)) (bs (tlD ((Lib.trimPrefix l [101]).drop 1))) (bs (hdD ((Lib.trimPrefix l [101]).drop 1))) w (by rw [bs_size]; exact hl) (by rw [ne_iff]; simpa using hne) (Lib.hid (fun w => by have := Tryd.strings_CutPrefix (bs l) ⟨#[101]⟩ w; simp only [hf] at this; exact this)) (Lib.hid (fun w => by have := Tryd.strings_HasPrefix (bs (Lib.trimPrefix l [101])) ⟨#[45]⟩ w; simp only [hn] at this; exact this)) (Lib.hid (fun w => by have := Tryd.strings_HasPrefix (bs (Lib.trimPrefix l [101])) ⟨#[43]⟩ w; simp only [hp] at this; exact this)) (by rw [bs_size]; exact pre_pos _ _ hp) (by rw [bs_size]; have := pre_pos _ _ hp; omega) (Lib.hid (bs_drop _ _ (bs_size _))) (Lib.hid (fun w => cut_d ((Lib.trimPrefix l [101]).drop 1) w (by have := trim_len l [101]; simp; omega)))
  · by_cases hd : hdD ((Lib.trimPrefix l [101]).drop 1) = []
    · have e : exO l = .tuple #[.int .i64 0, .bool false] := by unfold exO expF; rw [if_neg hne, hR, if_pos (Or.inr (Or.inl hd))]
      rw [e]
      exact ex_dem_p (bs l) (bs (Lib.trimPrefix l [101])) (bs ((Lib.trimPrefix l [101]).drop 1)) (bs (tlD ((Lib.trimPrefix l [101]).drop 1))) (bs (hdD ((Lib.trimPrefix l [101]).drop 1))) w (by rw [bs_size]; exact hl) (by rw [ne_iff]; simpa using hne) (Lib.hid (fun w => by have := Tryd.strings_CutPrefix (bs l) ⟨#[101]⟩ w; simp only [hf] at this; exact this)) (Lib.hid (fun w => by have := Tryd.strings_HasPrefix (bs (Lib.trimPrefix l [101])) ⟨#[45]⟩ w; simp only [hn] at this; exact this)) (Lib.hid (fun w => by have := Tryd.strings_HasPrefix (bs (Lib.trimPrefix l [101])) ⟨#[43]⟩ w; simp only [hp] at this; exact this)) (by rw [bs_size]; exact pre_pos _ _ hp) (by rw [bs_size]; have := pre_pos _ _ hp; omega) (Lib.hid (bs_drop _ _ (bs_size _))) (Lib.hid (fun w => cut_d ((Lib.trimPrefix l [101]).drop 1) w (by have := trim_len l [101]; simp; omega))) (by rw [hd, ne_iff]; rfl)
    · by_cases ht : tlD ((Lib.trimPrefix l [101]).drop 1) = []
      · have e : exO l = .tuple #[.int .i64 (exV (hdD ((Lib.trimPrefix l [101]).drop 1))), .bool true] := by unfold exO expF; rw [if_neg hne, hR, if_neg (by rw [hf]; intro q; rcases q with q | q | q <;> first | exact hd q | exact q ht | cases q), hn]; rfl
        rw [e]
        exact ex_ok_p (bs l) (bs (Lib.trimPrefix l [101])) (bs ((Lib.trimPrefix l [101]).drop 1)) (bs (tlD ((Lib.trimPrefix l [101]).drop 1))) (bs (hdD ((Lib.trimPrefix l [101]).drop 1))) w (by rw [bs_size]; exact hl) (by rw [ne_iff]; simpa using hne) (Lib.hid (fun w => by have := Tryd.strings_CutPrefix (bs l) ⟨#[101]⟩ w; simp only [hf] at this; exact this)) (Lib.hid (fun w => by have := Tryd.strings_HasPrefix (bs (Lib.trimPrefix l [101])) ⟨#[45]⟩ w; simp only [hn] at this; exact this)) (Lib.hid (fun w => by have := Tryd.strings_HasPrefix (bs (Lib.trimPrefix l [101])) ⟨#[43]⟩ w; simp only [hp] at this; exact this)) (by rw [bs_size]; exact pre_pos _ _ hp) (by rw [bs_size]; have := pre_pos _ _ hp; omega) (Lib.hid (bs_drop _ _ (bs_size _))) (Lib.hid (fun w => cut_d ((Lib.trimPrefix l [101]).drop 1) w (by have := trim_len l [101]; simp; omega))) (by rw [ne_iff]; simpa using hd) (Lib.hid (bs_hd_dig _)) (by rw [bs_size]; have h1 := hd_le ((Lib.trimPrefix l [101]).drop 1); have h2 := trim_len l [101]; have h3 : ((Lib.trimPrefix l [101]).drop 1).length ≤ (Lib.trimPrefix l [101]).length := (by first | exact Nat.le_refl _ | (simp; done) | (simp; omega)); omega) (by rw [ht, ne_iff]; rfl)
      · have e : exO l = .tuple #[.int .i64 0, .bool false] := by unfold exO expF; rw [if_neg hne, hR, if_pos (Or.inr (Or.inr ht))]
        rw [e]
        exact ex_tne_p (bs l) (bs (Lib.trimPrefix l [101])) (bs ((Lib.trimPrefix l [101]).drop 1)) (bs (tlD ((Lib.trimPrefix l [101]).drop 1))) (bs (hdD ((Lib.trimPrefix l [101]).drop 1))) w (by rw [bs_size]; exact hl) (by rw [ne_iff]; simpa using hne) (Lib.hid (fun w => by have := Tryd.strings_CutPrefix (bs l) ⟨#[101]⟩ w; simp only [hf] at this; exact this)) (Lib.hid (fun w => by have := Tryd.strings_HasPrefix (bs (Lib.trimPrefix l [101])) ⟨#[45]⟩ w; simp only [hn] at this; exact this)) (Lib.hid (fun w => by have := Tryd.strings_HasPrefix (bs (Lib.trimPrefix l [101])) ⟨#[43]⟩ w; simp only [hp] at this; exact this)) (by rw [bs_size]; exact pre_pos _ _ hp) (by rw [bs_size]; have := pre_pos _ _ hp; omega) (Lib.hid (bs_drop _ _ (bs_size _))) (Lib.hid (fun w => cut_d ((Lib.trimPrefix l [101]).drop 1) w (by have := trim_len l [101]; simp; omega))) (by rw [ne_iff]; simpa using hd) (by rw [ne_iff]; simpa using ht)

theorem exo_z (l : List UInt8) (w : World) (hl : l.length ≤ 9223372036854775807) (hne : l ≠ []) (hn : Lib.hasPrefix (Lib.trimPrefix l [101]) [45] = false) (hp : Lib.hasPrefix (Lib.trimPrefix l [101]) [43] = false) :
    Calls Tryd.prog 70 #[.string (bs l)] w fun q w' => q = .returned (exO l) ∧ Below w.heap.size w w' := by
  have hR : expR l = (Lib.trimPrefix l [101]) := by simp [expR, hn, hp]
  cases hf : Lib.hasPrefix l [101]
  · have e : exO l = .tuple #[.int .i64 0, .bool false] := by simp [exO, expF, hne, hf]
    rw [e]
    exact ex_nof_z (bs l) (bs (Lib.trimPrefix l [101])) (bs []) (bs (tlD (Lib.trimPrefix l [101]))) (bs (hdD (Lib.trimPrefix l [101]))) w (by rw [bs_size]; exact hl) (by rw [ne_iff]; simpa using hne) (Lib.hid (fun w => by have := Tryd.strings_CutPrefix (bs l) ⟨#[101]⟩ w; simp only [hf] at this; exact this)) (Lib.hid (fun w => by have := Tryd.strings_HasPrefix (bs (Lib.trimPrefix l [101])) ⟨#[45]⟩ w; simp only [hn] at this; exact this)) (Lib.hid (fun w => by have := Tryd.strings_HasPrefix (bs (Lib.trimPrefix l [101])) ⟨#[43]⟩ w; simp only [hp] at this; exact this)) (Lib.hid (fun w => cut_d (Lib.trimPrefix l [101]) w (by have := trim_len l [101]; simp; omega)))
  · by_cases hd : hdD (Lib.trimPrefix l [101]) = []
    · have e : exO l = .tuple #[.int .i64 0, .bool false] := by unfold exO expF; rw [if_neg hne, hR, if_pos (Or.inr (Or.inl hd))]
      rw [e]
      exact ex_dem_z (bs l) (bs (Lib.trimPrefix l [101])) (bs []) (bs (tlD (Lib.trimPrefix l [101]))) (bs (hdD (Lib.trimPrefix l [101]))) w (by rw [bs_size]; exact hl) (by rw [ne_iff]; simpa using hne) (Lib.hid (fun w => by have := Tryd.strings_CutPrefix (bs l) ⟨#[101]⟩ w; simp only [hf] at this; exact this)) (Lib.hid (fun w => by have := Tryd.strings_HasPrefix (bs (Lib.trimPrefix l [101])) ⟨#[45]⟩ w; simp only [hn] at this; exact this)) (Lib.hid (fun w => by have := Tryd.strings_HasPrefix (bs (Lib.trimPrefix l [101])) ⟨#[43]⟩ w; simp only [hp] at this; exact this)) (Lib.hid (fun w => cut_d (Lib.trimPrefix l [101]) w (by have := trim_len l [101]; simp; omega))) (by rw [hd, ne_iff]; rfl)
    · by_cases ht : tlD (Lib.trimPrefix l [101]) = []
      · have e : exO l = .tuple #[.int .i64 (exV (hdD (Lib.trimPrefix l [101]))), .bool true] := by unfold exO expF; rw [if_neg hne, hR, if_neg (by rw [hf]; intro q; rcases q with q | q | q <;> first | exact hd q | exact q ht | cases q), hn]; rfl
        rw [e]
        exact ex_ok_z (bs l) (bs (Lib.trimPrefix l [101])) (bs []) (bs (tlD (Lib.trimPrefix l [101]))) (bs (hdD (Lib.trimPrefix l [101]))) w (by rw [bs_size]; exact hl) (by rw [ne_iff]; simpa using hne) (Lib.hid (fun w => by have := Tryd.strings_CutPrefix (bs l) ⟨#[101]⟩ w; simp only [hf] at this; exact this)) (Lib.hid (fun w => by have := Tryd.strings_HasPrefix (bs (Lib.trimPrefix l [101])) ⟨#[45]⟩ w; simp only [hn] at this; exact this)) (Lib.hid (fun w => by have := Tryd.strings_HasPrefix (bs (Lib.trimPrefix l [101])) ⟨#[43]⟩ w; simp only [hp] at this; exact this)) (Lib.hid (fun w => cut_d (Lib.trimPrefix l [101]) w (by have := trim_len l [101]; simp; omega))) (by rw [ne_iff]; simpa using hd) (Lib.hid (bs_hd_dig _)) (by rw [bs_size]; have h1 := hd_le (Lib.trimPrefix l [101]); have h2 := trim_len l [101]; have h3 : (Lib.trimPrefix l [101]).length ≤ (Lib.trimPrefix l [101]).length := (by first | exact Nat.le_refl _ | (simp; done) | (simp; omega)); omega) (by rw [ht, ne_iff]; rfl)
      · have e : exO l = .tuple #[.int .i64 0, .bool false] := by unfold exO expF; rw [if_neg hne, hR, if_pos (Or.inr (Or.inr ht))]
        rw [e]
        exact ex_tne_z (bs l) (bs (Lib.trimPrefix l [101])) (bs []) (bs (tlD (Lib.trimPrefix l [101]))) (bs (hdD (Lib.trimPrefix l [101]))) w (by rw [bs_size]; exact hl) (by rw [ne_iff]; simpa using hne) (Lib.hid (fun w => by have := Tryd.strings_CutPrefix (bs l) ⟨#[101]⟩ w; simp only [hf] at this; exact this)) (Lib.hid (fun w => by have := Tryd.strings_HasPrefix (bs (Lib.trimPrefix l [101])) ⟨#[45]⟩ w; simp only [hn] at this; exact this)) (Lib.hid (fun w => by have := Tryd.strings_HasPrefix (bs (Lib.trimPrefix l [101])) ⟨#[43]⟩ w; simp only [hp] at this; exact this)) (Lib.hid (fun w => cut_d (Lib.trimPrefix l [101]) w (by have := trim_len l [101]; simp; omega))) (by rw [ne_iff]; simpa using hd) (by rw [ne_iff]; simpa using ht)

theorem ex_any (l : List UInt8) (w : World) (hl : l.length ≤ 9223372036854775807) :
    Calls Tryd.prog 70 #[.string (bs l)] w fun q w' => q = .returned (exO l) ∧ Below w.heap.size w w' := by
  by_cases hne : l = []
  · subst hne
    exact ex_nil w
  · cases hn : Lib.hasPrefix (Lib.trimPrefix l [101]) [45]
    · cases hp : Lib.hasPrefix (Lib.trimPrefix l [101]) [43]
      · exact exo_z l w hl hne hn hp
      · exact exo_p l w hl hne hn hp
    · exact exo_m l w hl hne hn

end Go.Proofs.YtnmifeiokhpcfaaDoor.re

namespace Go.Proofs.YtnmifeiokhpcfaaDoor.re
open Go.RowKit
set_option linter.unusedVariables false

set_option maxRecDepth 100000 in
set_option maxHeartbeats 1600000 in
theorem nof_long_f (s r0 wh r1 a fr r2 wf D : ByteArray) (neg : Bool) (e : Int) (w : World) (HCP1 : Hid (∀ w, Calls Tryd.prog 68 #[.string s, .string ⟨#[45]⟩] w fun e w' => e = .returned (.tuple #[.string r0, .bool neg]) ∧ w' = w)) (HC1 : Hid (∀ w : World, Calls Tryd.prog 69 #[.string r0] w fun e w' => e = .returned (.tuple #[.string wh, .string r1]) ∧ Below w.heap.size w w')) (hs : (60 : Int) < (s.size : Int)) :
    Calls Tryd.prog 65 #[.string s] w fun q w' => q = .returned (.tuple #[.agg #[.bool false, .string ⟨#[]⟩, .int .i64 0], .bool false]) ∧ Below w.heap.size w w' := by
  go_enter Tryd.func65, Tryd.ntmps65
  go_wp2_with fail
  refine (HCP1.out _).mono ?_
  rintro q w0 ⟨rfl, rfl⟩
  go_wp2_with fail
  refine (HC1.out _).mono ?_
  rintro q w1 ⟨rfl, hb1⟩
  have f0_0 : w1.frozen? ⟨w.heap.size, 0, none⟩ = false := carryF hb1 (v := .bool false) (by first | with_reducible assumption | go_simp) (by first | with_reducible assumption | go_simp)
  have f0_1 : w1.frozen? ⟨w.heap.size, 1, none⟩ = false := carryF hb1 (v := .string ⟨#[]⟩) (by first | with_reducible assumption | go_simp) (by first | with_reducible assumption | go_simp)
  have f0_2 : w1.frozen? ⟨w.heap.size, 2, none⟩ = false := carryF hb1 (v := .int .i64 0) (by first | with_reducible assumption | go_simp) (by first | with_reducible assumption | go_simp)
  have c0_0 : w1.cell? ⟨w.heap.size, 0, none⟩ = some (.bool false) := carry hb1 (by first | with_reducible assumption | go_simp)
  have c0_1 : w1.cell? ⟨w.heap.size, 1, none⟩ = some (.string ⟨#[]⟩) := carry hb1 (by first | with_reducible assumption | go_simp)
  have c0_2 : w1.cell? ⟨w.heap.size, 2, none⟩ = some (.int .i64 0) := carry hb1 (by first | with_reducible assumption | go_simp)
  have z0 : w.heap.size < w1.heap.size := by have := hb1.size; first | omega | (simp at this; omega)
  have HBB := Lib.hid ((by repeat (first | with_reducible exact Below.refl _ _ | with_reducible refine Below.setCell ?_ (by first | omega | (simp; done) | (simp; omega)) _ | with_reducible refine Below.drew ?_ | with_reducible refine belowN ?_ _ | with_reducible refine Below.alloc ?_ (by first | omega | (simp; done) | (simp; omega)) _) : Below w.heap.size w _).trans (hb1.mono (by first | omega | (simp; done) | (simp; omega))))
  clear hb1
  go_wp2_with fail
  refine bodyPost_ret (v := .tuple #[.agg #[.bool false, .string ⟨#[]⟩, .int .i64 0], .bool false]) (by simp [results, Tryd.results65, go_sem, c0_0, c0_1, c0_2]) rfl ⟨rfl, by repeat (first | with_reducible exact HBB.out | with_reducible exact Below.refl _ _ | with_reducible refine Below.drew ?_ | with_reducible refine belowN ?_ _ | with_reducible refine Below.setCell ?_ (by first | omega | (simp; done) | (simp; omega)) _ | with_reducible refine Below.alloc ?_ (by first | omega | (simp; done) | (simp; omega)) _)⟩

set_option maxRecDepth 100000 in
set_option maxHeartbeats 1600000 in
theorem nof_empty_f (s r0 wh r1 a fr r2 wf D : ByteArray) (neg : Bool) (e : Int) (w : World) (HCP1 : Hid (∀ w, Calls Tryd.prog 68 #[.string s, .string ⟨#[45]⟩] w fun e w' => e = .returned (.tuple #[.string r0, .bool neg]) ∧ w' = w)) (HC1 : Hid (∀ w : World, Calls Tryd.prog 69 #[.string r0] w fun e w' => e = .returned (.tuple #[.string wh, .string r1]) ∧ Below w.heap.size w w')) (hs : (s.size : Int) ≤ 60) (hw : wh.toList.isEmpty = true) :
    Calls Tryd.prog 65 #[.string s] w fun q w' => q = .returned (.tuple #[.agg #[.bool false, .string ⟨#[]⟩, .int .i64 0], .bool false]) ∧ Below w.heap.size w w' := by
  go_enter Tryd.func65, Tryd.ntmps65
  go_wp2_with fail
  refine (HCP1.out _).mono ?_
  rintro q w0 ⟨rfl, rfl⟩
  go_wp2_with fail
  refine (HC1.out _).mono ?_
  rintro q w1 ⟨rfl, hb1⟩
  have f0_0 : w1.frozen? ⟨w.heap.size, 0, none⟩ = false := carryF hb1 (v := .bool false) (by first | with_reducible assumption | go_simp) (by first | with_reducible assumption | go_simp)
  have f0_1 : w1.frozen? ⟨w.heap.size, 1, none⟩ = false := carryF hb1 (v := .string ⟨#[]⟩) (by first | with_reducible assumption | go_simp) (by first | with_reducible assumption | go_simp)
  have f0_2 : w1.frozen? ⟨w.heap.size, 2, none⟩ = false := carryF hb1 (v := .int .i64 0) (by first | with_reducible assumption | go_simp) (by first | with_reducible assumption | go_simp)
  have c0_0 : w1.cell? ⟨w.heap.size, 0, none⟩ = some (.bool false) := carry hb1 (by first | with_reducible assumption | go_simp)
  have c0_1 : w1.cell? ⟨w.heap.size, 1, none⟩ = some (.string ⟨#[]⟩) := carry hb1 (by first | with_reducible assumption | go_simp)
  have c0_2 : w1.cell? ⟨w.heap.size, 2, none⟩ = some (.int .i64 0) := carry hb1 (by first | with_reducible assumption | go_simp)
  have z0 : w.heap.size < w1.heap.size := by have := hb1.size; first | omega | (simp at this; omega)
  have HBB := Lib.hid ((by repeat (first | with_reducible exact Below.refl _ _ | with_reducible refine Below.setCell ?_ (by first | omega | (simp; done) | (simp; omega)) _ | with_reducible refine Below.drew ?_ | with_reducible refine belowN ?_ _ | with_reducible refine Below.alloc ?_ (by first | omega | (simp; done) | (simp; omega)) _) : Below w.heap.size w _).trans (hb1.mono (by first | omega | (simp; done) | (simp; omega))))
  clear hb1
  go_wp2_with fail
  refine bodyPost_ret (v := .tuple #[.agg #[.bool false, .string ⟨#[]⟩, .int .i64 0], .bool false]) (by simp [results, Tryd.results65, go_sem, c0_0, c0_1, c0_2]) rfl ⟨rfl, by repeat (first | with_reducible exact HBB.out | with_reducible exact Below.refl _ _ | with_reducible refine Below.drew ?_ | with_reducible refine belowN ?_ _ | with_reducible refine Below.setCell ?_ (by first | omega | (simp; done) | (simp; omega)) _ | with_reducible refine Below.alloc ?_ (by first | omega | (simp; done) | (simp; omega)) _)⟩

set_option maxRecDepth 100000 in
set_option maxHeartbeats 1600000 in
theorem nof_nofr_t (s r0 wh r1 a fr r2 wf D : ByteArray) (neg : Bool) (e : Int) (w : World) (HCP1 : Hid (∀ w, Calls Tryd.prog 68 #[.string s, .string ⟨#[45]⟩] w fun e w' => e = .returned (.tuple #[.string r0, .bool neg]) ∧ w' = w)) (HC1 : Hid (∀ w : World, Calls Tryd.prog 69 #[.string r0] w fun e w' => e = .returned (.tuple #[.string wh, .string r1]) ∧ Below w.heap.size w w')) (hs : (s.size : Int) ≤ 60) (hw : wh.toList.isEmpty = false) (HCP2 : Hid (∀ w, Calls Tryd.prog 68 #[.string r1, .string ⟨#[46]⟩] w fun e w' => e = .returned (.tuple #[.string a, .bool true]) ∧ w' = w)) (HC2 : Hid (∀ w : World, Calls Tryd.prog 69 #[.string a] w fun e w' => e = .returned (.tuple #[.string fr, .string r2]) ∧ Below w.heap.size w w')) (hfr : fr.toList.isEmpty = true) :
    Calls Tryd.prog 65 #[.string s] w fun q w' => q = .returned (.tuple #[.agg #[.bool false, .string ⟨#[]⟩, .int .i64 0], .bool false]) ∧ Below w.heap.size w w' := by
  go_enter Tryd.func65, Tryd.ntmps65
  go_wp2_with fail
  refine (HCP1.out _).mono ?_
  rintro q w0 ⟨rfl, rfl⟩
  go_wp2_with fail
  refine (HC1.out _).mono ?_
  rintro q w1 ⟨rfl, hb1⟩
  have f0_0 : w1.frozen? ⟨w.heap.size, 0, none⟩ = false := carryF hb1 (v := .bool false) (by first | with_reducible assumption | go_simp) (by first | with_reducible assumption | go_simp)
  have f0_1 : w1.frozen? ⟨w.heap.size, 1, none⟩ = false := carryF hb1 (v := .string ⟨#[]⟩) (by first | with_reducible assumption | go_simp) (by first | with_reducible assumption | go_simp)
  have f0_2 : w1.frozen? ⟨w.heap.size, 2, none⟩ = false := carryF hb1 (v := .int .i64 0) (by first | with_reducible assumption | go_simp) (by first | with_reducible assumption | go_simp)
  have c0_0 : w1.cell? ⟨w.heap.size, 0, none⟩ = some (.bool false) := carry hb1 (by first | with_reducible assumption | go_simp)
  have c0_1 : w1.cell? ⟨w.heap.size, 1, none⟩ = some (.string ⟨#[]⟩) := carry hb1 (by first | with_reducible assumption | go_simp)
  have c0_2 : w1.cell? ⟨w.heap.size, 2, none⟩ = some (.int .i64 0) := carry hb1 (by first | with_reducible assumption | go_simp)
  have z0 : w.heap.size < w1.heap.size := by have := hb1.size; first | omega | (simp at this; omega)
  have HBB := Lib.hid ((by repeat (first | with_reducible exact Below.refl _ _ | with_reducible refine Below.setCell ?_ (by first | omega | (simp; done) | (simp; omega)) _ | with_reducible refine Below.drew ?_ | with_reducible refine belowN ?_ _ | with_reducible refine Below.alloc ?_ (by first | omega | (simp; done) | (simp; omega)) _) : Below w.heap.size w _).trans (hb1.mono (by first | omega | (simp; done) | (simp; omega))))
  clear hb1
  go_wp2_with fail
  refine (HCP2.out _).mono ?_
  rintro q w2 ⟨rfl, rfl⟩
  go_wp2_with fail
  refine (HC2.out _).mono ?_
  rintro q w3 ⟨rfl, hb1⟩
  have f0_0 : w3.frozen? ⟨w.heap.size, 0, none⟩ = false := carryF hb1 (v := .bool false) (by first | with_reducible assumption | go_simp) (by first | with_reducible assumption | go_simp)
  have f0_1 : w3.frozen? ⟨w.heap.size, 1, none⟩ = false := carryF hb1 (v := .string ⟨#[]⟩) (by first | with_reducible assumption | go_simp) (by first | with_reducible assumption | go_simp)
  have f0_2 : w3.frozen? ⟨w.heap.size, 2, none⟩ = false := carryF hb1 (v := .int .i64 0) (by first | with_reducible assumption | go_simp) (by first | with_reducible assumption | go_simp)
  have c0_0 : w3.cell? ⟨w.heap.size, 0, none⟩ = some (.bool false) := carry hb1 (by first | with_reducible assumption | go_simp)
  have c0_1 : w3.cell? ⟨w.heap.size, 1, none⟩ = some (.string ⟨#[]⟩) := carry hb1 (by first | with_reducible assumption | go_simp)
  have c0_2 : w3.cell? ⟨w.heap.size, 2, none⟩ = some (.int .i64 0) := carry hb1 (by first | with_reducible assumption | go_simp)
  have z0 : w.heap.size < w3.heap.size := by have := hb1.size; first | omega | (simp at this; omega)
  have HBB := Lib.hid ((by repeat (first | with_reducible exact HBB.out | with_reducible refine Below.setCell ?_ (by first | omega | (simp; done) | (simp; omega)) _ | with_reducible refine Below.drew ?_ | with_reducible refine belowN ?_ _ | with_reducible refine Below.alloc ?_ (by first | omega | (simp; done) | (simp; omega)) _) : Below w.heap.size w _).trans (hb1.mono (by first | omega | (simp; done) | (simp; omega))))
  clear hb1
  go_wp2_with fail
  refine bodyPost_ret (v := .tuple #[.agg #[.bool false, .string ⟨#[]⟩, .int .i64 0], .bool false]) (by simp [results, Tryd.results65, go_sem, c0_0, c0_1, c0_2]) rfl ⟨rfl, by repeat (first | with_reducible exact HBB.out | with_reducible exact Below.refl _ _ | with_reducible refine Below.drew ?_ | with_reducible refine belowN ?_ _ | with_reducible refine Below.setCell ?_ (by first | omega | (simp; done) | (simp; omega)) _ | with_reducible refine Below.alloc ?_ (by first | omega | (simp; done) | (simp; omega)) _)⟩

set_option maxRecDepth 100000 in
set_option maxHeartbeats 1600000 in
theorem nof_bad_t (s r0 wh r1 a fr r2 wf D : ByteArray) (neg : Bool) (e : Int) (w : World) (HCP1 : Hid (∀ w, Calls Tryd.prog 68 #[.string s, .string ⟨#[45]⟩] w fun e w' => e = .returned (.tuple #[.string r0, .bool neg]) ∧ w' = w)) (HC1 : Hid (∀ w : World, Calls Tryd.prog 69 #[.string r0] w fun e w' => e = .returned (.tuple #[.string wh, .string r1]) ∧ Below w.heap.size w w')) (hs : (s.size : Int) ≤ 60) (hw : wh.toList.isEmpty = false) (HCP2 : Hid (∀ w, Calls Tryd.prog 68 #[.string r1, .string ⟨#[46]⟩] w fun e w' => e = .returned (.tuple #[.string a, .bool true]) ∧ w' = w)) (HC2 : Hid (∀ w : World, Calls Tryd.prog 69 #[.string a] w fun e w' => e = .returned (.tuple #[.string fr, .string r2]) ∧ Below w.heap.size w w')) (hfr : fr.toList.isEmpty = false) (HEX : Hid (∀ w : World, Calls Tryd.prog 70 #[.string r2] w fun q w' => q = .returned (.tuple #[.int .i64 0, .bool false]) ∧ Below w.heap.size w w')) :
    Calls Tryd.prog 65 #[.string s] w fun q w' => q = .returned (.tuple #[.agg #[.bool false, .string ⟨#[]⟩, .int .i64 0], .bool false]) ∧ Below w.heap.size w w' := by
  go_enter Tryd.func65, Tryd.ntmps65
  go_wp2_with fail
  refine (HCP1.out _).mono ?_
  rintro q w0 ⟨rfl, rfl⟩
  go_wp2_with fail
  refine (HC1.out _).mono ?_
  rintro q w1 ⟨rfl, hb1⟩
  have f0_0 : w1.frozen? ⟨w.heap.size, 0, none⟩ = false := carryF hb1 (v := .bool false) (by first | with_reducible assumption | go_simp) (by first | with_reducible assumption | go_simp)
  have f0_1 : w1.frozen? ⟨w.heap.size, 1, none⟩ = false := carryF hb1 (v := .string ⟨#[]⟩) (by first | with_reducible assumption | go_simp) (by first | with_reducible assumption | go_simp)
  have f0_2 : w1.frozen? ⟨w.heap.size, 2, none⟩ = false := carryF hb1 (v := .int .i64 0) (by first | with_reducible assumption | go_simp) (by first | with_reducible assumption | go_simp)
  have c0_0 : w1.cell? ⟨w.heap.size, 0, none⟩ = some (.bool false) := carry hb1 (by first | with_reducible assumption | go_simp)
  have c0_1 : w1.cell? ⟨w.heap.size, 1, none⟩ = some (.string ⟨#[]⟩) := carry hb1 (by first | with_reducible assumption | go_simp)
  have c0_2 : w1.cell? ⟨w.heap.size, 2, none⟩ = some (.int .i64 0) := carry hb1 (by first | with_reducible assumption | go_simp)
  have z0 : w.heap.size < w1.heap.size := by have := hb1.size; first | omega | (simp at this; omega)
  have HBB := Lib.hid ((by repeat (first | with_reducible exact Below.refl _ _ | with_reducible refine Below.setCell ?_ (by first | omega | (simp; done) | (simp; omega)) _ | with_reducible refine Below.drew ?_ | with_reducible refine belowN ?_ _ | with_reducible refine Below.alloc ?_ (by first | omega | (simp; done) | (simp; omega)) _) : Below w.heap.size w _).trans (hb1.mono (by first | omega | (simp; done) | (simp; omega))))
  clear hb1
  go_wp2_with fail
  refine (HCP2.out _).mono ?_
  rintro q w2 ⟨rfl, rfl⟩
  go_wp2_with fail
  refine (HC2.out _).mono ?_
  rintro q w3 ⟨rfl, hb1⟩
  have f0_0 : w3.frozen? ⟨w.heap.size, 0, none⟩ = false := carryF hb1 (v := .bool false) (by first | with_reducible assumption | go_simp) (by first | with_reducible assumption | go_simp)
  have f0_1 : w3.frozen? ⟨w.heap.size, 1, none⟩ = false := carryF hb1 (v := .string ⟨#[]⟩) (by first | with_reducible assumption | go_simp) (by first | with_reducible assumption | go_simp)
  have f0_2 : w3.frozen? ⟨w.heap.size, 2, none⟩ = false := carryF hb1 (v := .int .i64 0) (by first | with_reducible assumption | go_simp) (by first | with_reducible assumption | go_simp)
  have c0_0 : w3.cell? ⟨w.heap.size, 0, none⟩ = some (.bool false) := carry hb1 (by first | with_reducible assumption | go_simp)
  have c0_1 : w3.cell? ⟨w.heap.size, 1, none⟩ = some (.string ⟨#[]⟩) := carry hb1 (by first | with_reducible assumption | go_simp)
  have c0_2 : w3.cell? ⟨w.heap.size, 2, none⟩ = some (.int .i64 0) := carry hb1 (by first | with_reducible assumption | go_simp)
  have z0 : w.heap.size < w3.heap.size := by have := hb1.size; first | omega | (simp at this; omega)
  have HBB := Lib.hid ((by repeat (first | with_reducible exact HBB.out | with_reducible refine Below.setCell ?_ (by first | omega | (simp; done) | (simp; omega)) _ | with_reducible refine Below.drew ?_ | with_reducible refine belowN ?_ _ | with_reducible refine Below.alloc ?_ (by first | omega | (simp; done) | (simp; omega)) _) : Below w.heap.size w _).trans (hb1.mono (by first | omega | (simp; done) | (simp; omega))))
  clear hb1
  go_wp2_with fail
  refine (HEX.out _).mono ?_
  rintro q w4 ⟨rfl, hb1⟩
  have f0_0 : w4.frozen? ⟨w.heap.size, 0, none⟩ = false := carryF hb1 (v := .bool false) (by first | with_reducible assumption | go_simp) (by first | with_reducible assumption | go_simp)
  have f0_1 : w4.frozen? ⟨w.heap.size, 1, none⟩ = false := carryF hb1 (v := .string ⟨#[]⟩) (by first | with_reducible assumption | go_simp) (by first | with_reducible assumption | go_simp)
  have f0_2 : w4.frozen? ⟨w.heap.size, 2, none⟩ = false := carryF hb1 (v := .int .i64 0) (by first | with_reducible assumption | go_simp) (by first | with_reducible assumption | go_simp)
  have c0_0 : w4.cell? ⟨w.heap.size, 0, none⟩ = some (.bool false) := carry hb1 (by first | with_reducible assumption | go_simp)
  have c0_1 : w4.cell? ⟨w.heap.size, 1, none⟩ = some (.string ⟨#[]⟩) := carry hb1 (by first | with_reducible assumption | go_simp)
  have c0_2 : w4.cell? ⟨w.heap.size, 2, none⟩ = some (.int .i64 0) := carry hb1 (by first | with_reducible assumption | go_simp)
  have z0 : w.heap.size < w4.heap.size := by have := hb1.size; first | omega | (simp at this; omega)
  have HBB := Lib.hid ((by repeat (first | with_reducible exact HBB.out | with_reducible refine Below.setCell ?_ (by first | omega | (simp; done) | (simp; omega)) _ | with_reducible refine Below.drew ?_ | with_reducible refine belowN ?_ _ | with_reducible refine Below.alloc ?_ (by first | omega | (simp; done) | (simp; omega)) _) : Below w.heap.size w _).trans (hb1.mono (by first | omega | (simp; done) | (simp; omega))))
  clear hb1
  go_wp2_with fail
  refine bodyPost_ret (v := .tuple #[.agg #[.bool false, .string ⟨#[]⟩, .int .i64 0], .bool false]) (by simp [results, Tryd.results65, go_sem, c0_0, c0_1, c0_2]) rfl ⟨rfl, by repeat (first | with_reducible exact HBB.out | with_reducible exact Below.refl _ _ | with_reducible refine Below.drew ?_ | with_reducible refine belowN ?_ _ | with_reducible refine Below.setCell ?_ (by first | omega | (simp; done) | (simp; omega)) _ | with_reducible refine Below.alloc ?_ (by first | omega | (simp; done) | (simp; omega)) _)⟩

set_option maxRecDepth 100000 in
set_option maxHeartbeats 1600000 in
theorem nof_bad_f (s r0 wh r1 a fr r2 wf D : ByteArray) (neg : Bool) (e : Int) (w : World) (HCP1 : Hid (∀ w, Calls Tryd.prog 68 #[.string s, .string ⟨#[45]⟩] w fun e w' => e = .returned (.tuple #[.string r0, .bool neg]) ∧ w' = w)) (HC1 : Hid (∀ w : World, Calls Tryd.prog 69 #[.string r0] w fun e w' => e = .returned (.tuple #[.string wh, .string r1]) ∧ Below w.heap.size w w')) (hs : (s.size : Int) ≤ 60) (hw : wh.toList.isEmpty = false) (HCP2 : Hid (∀ w, Calls Tryd.prog 68 #[.string r1, .string ⟨#[46]⟩] w fun e w' => e = .returned (.tuple #[.string a, .bool false]) ∧ w' = w)) (HEX : Hid (∀ w : World, Calls Tryd.prog 70 #[.string r1] w fun q w' => q = .returned (.tuple #[.int .i64 0, .bool false]) ∧ Below w.heap.size w w')) :
    Calls Tryd.prog 65 #[.string s] w fun q w' => q = .returned (.tuple #[.agg #[.bool false, .string ⟨#[]⟩, .int .i64 0], .bool false]) ∧ Below w.heap.size w w' := by
  go_enter Tryd.func65, Tryd.ntmps65
  go_wp2_with fail
  refine (HCP1.out _).mono ?_
  rintro q w0 ⟨rfl, rfl⟩
  go_wp2_with fail
  refine (HC1.out _).mono ?_
  rintro q w1 ⟨rfl, hb1⟩
  have f0_0 : w1.frozen? ⟨w.heap.size, 0, none⟩ = false := carryF hb1 (v := .bool false) (by first | with_reducible assumption | go_simp) (by first | with_reducible assumption | go_simp)
  have f0_1 : w1.frozen? ⟨w.heap.size, 1, none⟩ = false := carryF hb1 (v := .string ⟨#[]⟩) (by first | with_reducible assumption | go_simp) (by first | with_reducible assumption | go_simp)
  have f0_2 : w1.frozen? ⟨w.heap.size, 2, none⟩ = false := carryF hb1 (v := .int .i64 0) (by first | with_reducible assumption | go_simp) (by first | with_reducible assumption | go_simp)
  have c0_0 : w1.cell? ⟨w.heap.size, 0, none⟩ = some (.bool false) := carry hb1 (by first | with_reducible assumption | go_simp)
  have c0_1 : w1.cell? ⟨w.heap.size, 1, none⟩ = some (.string ⟨#[]⟩) := carry hb1 (by first | with_reducible assumption | go_simp)
  have c0_2 : w1.cell? ⟨w.heap.size, 2, none⟩ = some (.int .i64 0) := carry hb1 (by first | with_reducible assumption | go_simp)
  have z0 : w.heap.size < w1.heap.size := by have := hb1.size; first | omega | (simp at this; omega)
  have HBB := Lib.hid ((by repeat (first | with_reducible exact Below.refl _ _ | with_reducible refine Below.setCell ?_ (by first | omega | (simp; done) | (simp; omega)) _ | with_reducible refine Below.drew ?_ | with_reducible refine belowN ?_ _ | with_reducible refine Below.alloc ?_ (by first | omega | (simp; done) | (simp; omega)) _) : Below w.heap.size w _).trans (hb1.mono (by first | omega | (simp; done) | (simp; omega))))
  clear hb1
  go_wp2_with fail
  refine (HCP2.out _).mono ?_
  rintro q w2 ⟨rfl, rfl⟩
  go_wp2_with fail
  refine (HEX.out _).mono ?_
  rintro q w4 ⟨rfl, hb1⟩
  have f0_0 : w4.frozen? ⟨w.heap.size, 0, none⟩ = false := carryF hb1 (v := .bool false) (by first | with_reducible assumption | go_simp) (by first | with_reducible assumption | go_simp)
  have f0_1 : w4.frozen? ⟨w.heap.size, 1, none⟩ = false := carryF hb1 (v := .string ⟨#[]⟩) (by first | with_reducible assumption | go_simp) (by first | with_reducible assumption | go_simp)
  have f0_2 : w4.frozen? ⟨w.heap.size, 2, none⟩ = false := carryF hb1 (v := .int .i64 0) (by first | with_reducible assumption | go_simp) (by first | with_reducible assumption | go_simp)
  have c0_0 : w4.cell? ⟨w.heap.size, 0, none⟩ = some (.bool false) := carry hb1 (by first | with_reducible assumption | go_simp)
  have c0_1 : w4.cell? ⟨w.heap.size, 1, none⟩ = some (.string ⟨#[]⟩) := carry hb1 (by first | with_reducible assumption | go_simp)
  have c0_2 : w4.cell? ⟨w.heap.size, 2, none⟩ = some (.int .i64 0) := carry hb1 (by first | with_reducible assumption | go_simp)
  have z0 : w.heap.size < w4.heap.size := by have := hb1.size; first | omega | (simp at this; omega)
  have HBB := Lib.hid ((by repeat (first | with_reducible exact HBB.out | with_reducible refine Below.setCell ?_ (by first | omega | (simp; done) | (simp; omega)) _ | with_reducible refine Below.drew ?_ | with_reducible refine belowN ?_ _ | with_reducible refine Below.alloc ?_ (by first | omega | (simp; done) | (simp; omega)) _) : Below w.heap.size w _).trans (hb1.mono (by first | omega | (simp; done) | (simp; omega))))
  clear hb1
  go_wp2_with fail
  refine bodyPost_ret (v := .tuple #[.agg #[.bool false, .string ⟨#[]⟩, .int .i64 0], .bool false]) (by simp [results, Tryd.results65, go_sem, c0_0, c0_1, c0_2]) rfl ⟨rfl, by repeat (first | with_reducible exact HBB.out | with_reducible exact Below.refl _ _ | with_reducible refine Below.drew ?_ | with_reducible refine belowN ?_ _ | with_reducible refine Below.setCell ?_ (by first | omega | (simp; done) | (simp; omega)) _ | with_reducible refine Below.alloc ?_ (by first | omega | (simp; done) | (simp; omega)) _)⟩

set_option maxRecDepth 100000 in
set_option maxHeartbeats 1600000 in
theorem nof_ok_t (s r0 wh r1 a fr r2 wf D : ByteArray) (neg : Bool) (e : Int) (w : World) (HCP1 : Hid (∀ w, Calls Tryd.prog 68 #[.string s, .string ⟨#[45]⟩] w fun e w' => e = .returned (.tuple #[.string r0, .bool neg]) ∧ w' = w)) (HC1 : Hid (∀ w : World, Calls Tryd.prog 69 #[.string r0] w fun e w' => e = .returned (.tuple #[.string wh, .string r1]) ∧ Below w.heap.size w w')) (hs : (s.size : Int) ≤ 60) (hw : wh.toList.isEmpty = false) (HCP2 : Hid (∀ w, Calls Tryd.prog 68 #[.string r1, .string ⟨#[46]⟩] w fun e w' => e = .returned (.tuple #[.string a, .bool true]) ∧ w' = w)) (HC2 : Hid (∀ w : World, Calls Tryd.prog 69 #[.string a] w fun e w' => e = .returned (.tuple #[.string fr, .string r2]) ∧ Below w.heap.size w w')) (hfr : fr.toList.isEmpty = false) (HEX : Hid (∀ w : World, Calls Tryd.prog 70 #[.string r2] w fun q w' => q = .returned (.tuple #[.int .i64 e, .bool true]) ∧ Below w.heap.size w w')) (hadd : ∀ w, (Op.stringOp .add wh fr).run Tryd.prog w = .ok (.string wf) w) (HTL : Hid (∀ w, Calls Tryd.prog 71 #[.string wf, .string ⟨#[48]⟩] w fun e w' => e = .returned (.string D) ∧ w' = w)) (he1 : -1000 ≤ e) (he2 : e ≤ 1000) (n : Nat) (hn : fr.size = n) (hn2 : n ≤ 60) :
    Calls Tryd.prog 65 #[.string s] w fun q w' => q = .returned (.tuple #[.agg #[.bool neg, .string D, .int .i64 (e - (n : Int))], .bool true]) ∧ Below w.heap.size w w' := by
  go_enter Tryd.func65, Tryd.ntmps65
  go_wp2_with fail
  refine (HCP1.out _).mono ?_
  rintro q w0 ⟨rfl, rfl⟩
  go_wp2_with fail
  refine (HC1.out _).mono ?_
  rintro q w1 ⟨rfl, hb1⟩
  have f0_0 : w1.frozen? ⟨w.heap.size, 0, none⟩ = false := carryF hb1 (v := .bool false) (by first | with_reducible assumption | go_simp) (by first | with_reducible assumption | go_simp)
  have f0_1 : w1.frozen? ⟨w.heap.size, 1, none⟩ = false := carryF hb1 (v := .string ⟨#[]⟩) (by first | with_reducible assumption | go_simp) (by first | with_reducible assumption | go_simp)
  have f0_2 : w1.frozen? ⟨w.heap.size, 2, none⟩ = false := carryF hb1 (v := .int .i64 0) (by first | with_reducible assumption | go_simp) (by first | with_reducible assumption | go_simp)
  have c0_0 : w1.cell? ⟨w.heap.size, 0, none⟩ = some (.bool false) := carry hb1 (by first | with_reducible assumption | go_simp)
  have c0_1 : w1.cell? ⟨w.heap.size, 1, none⟩ = some (.string ⟨#[]⟩) := carry hb1 (by first | with_reducible assumption | go_simp)
  have c0_2 : w1.cell? ⟨w.heap.size, 2, none⟩ = some (.int .i64 0) := carry hb1 (by first | with_reducible assumption | go_simp)
  have z0 : w.heap.size < w1.heap.size := by have := hb1.size; first | omega | (simp at this; omega)
  have HBB := Lib.hid ((by repeat (first | with_reducible exact Below.refl _ _ | with_reducible refine Below.setCell ?_ (by first | omega | (simp; done) | (simp; omega)) _ | with_reducible refine Below.drew ?_ | with_reducible refine belowN ?_ _ | with_reducible refine Below.alloc ?_ (by first | omega | (simp; done) | (simp; omega)) _) : Below w.heap.size w _).trans (hb1.mono (by first | omega | (simp; done) | (simp; omega))))
  clear hb1
  go_wp2_with fail
  refine (HCP2.out _).mono ?_
  rintro q w2 ⟨rfl, rfl⟩
  go_wp2_with fail
  refine (HC2.out _).mono ?_
  rintro q w3 ⟨rfl, hb1⟩
  have f0_0 : w3.frozen? ⟨w.heap.size, 0, none⟩ = false := carryF hb1 (v := .bool false) (by first | with_reducible assumption | go_simp) (by first | with_reducible assumption | go_simp)
  have f0_1 : w3.frozen? ⟨w.heap.size, 1, none⟩ = false := carryF hb1 (v := .string ⟨#[]⟩) (by first | with_reducible assumption | go_simp) (by first | with_reducible assumption | go_simp)
  have f0_2 : w3.frozen? ⟨w.heap.size, 2, none⟩ = false := carryF hb1 (v := .int .i64 0) (by first | with_reducible assumption | go_simp) (by first | with_reducible assumption | go_simp)
  have c0_0 : w3.cell? ⟨w.heap.size, 0, none⟩ = some (.bool false) := carry hb1 (by first | with_reducible assumption | go_simp)
  have c0_1 : w3.cell? ⟨w.heap.size, 1, none⟩ = some (.string ⟨#[]⟩) := carry hb1 (by first | with_reducible assumption | go_simp)
  have c0_2 : w3.cell? ⟨w.heap.size, 2, none⟩ = some (.int .i64 0) := carry hb1 (by first | with_reducible assumption | go_simp)
  have z0 : w.heap.size < w3.heap.size := by have := hb1.size; first | omega | (simp at this; omega)
  have HBB := Lib.hid ((by repeat (first | with_reducible exact HBB.out | with_reducible refine Below.setCell ?_ (by first | omega | (simp; done) | (simp; omega)) _ | with_reducible refine Below.drew ?_ | with_reducible refine belowN ?_ _ | with_reducible refine Below.alloc ?_ (by first | omega | (simp; done) | (simp; omega)) _) : Below w.heap.size w _).trans (hb1.mono (by first | omega | (simp; done) | (simp; omega))))
  clear hb1
  go_wp2_with fail
  refine (HEX.out _).mono ?_
  rintro q w4 ⟨rfl, hb1⟩
  have f0_0 : w4.frozen? ⟨w.heap.size, 0, none⟩ = false := carryF hb1 (v := .bool false) (by first | with_reducible assumption | go_simp) (by first | with_reducible assumption | go_simp)
  have f0_1 : w4.frozen? ⟨w.heap.size, 1, none⟩ = false := carryF hb1 (v := .string ⟨#[]⟩) (by first | with_reducible assumption | go_simp) (by first | with_reducible assumption | go_simp)
  have f0_2 : w4.frozen? ⟨w.heap.size, 2, none⟩ = false := carryF hb1 (v := .int .i64 0) (by first | with_reducible assumption | go_simp) (by first | with_reducible assumption | go_simp)
  have c0_0 : w4.cell? ⟨w.heap.size, 0, none⟩ = some (.bool false) := carry hb1 (by first | with_reducible assumption | go_simp)
  have c0_1 : w4.cell? ⟨w.heap.size, 1, none⟩ = some (.string ⟨#[]⟩) := carry hb1 (by first | with_reducible assumption | go_simp)
  have c0_2 : w4.cell? ⟨w.heap.size, 2, none⟩ = some (.int .i64 0) := carry hb1 (by first | with_reducible assumption | go_simp)
  have z0 : w.heap.size < w4.heap.size := by have := hb1.size; first | omega | (simp at this; omega)
  have HBB := Lib.hid ((by repeat (first | with_reducible exact HBB.out | with_reducible refine Below.setCell ?_ (by first | omega | (simp; done) | (simp; omega)) _ | with_reducible refine Below.drew ?_ | with_reducible refine belowN ?_ _ | with_reducible refine Below.alloc ?_ (by first | omega | (simp; done) | (simp; omega)) _) : Below w.heap.size w _).trans (hb1.mono (by first | omega | (simp; done) | (simp; omega))))
  clear hb1
  go_wp2_with fail
  refine (HTL.out _).mono ?_
  rintro q w5 ⟨rfl, rfl⟩
  go_wp2_with fail
  refine bodyPost_ret (v := .tuple #[.agg #[.bool neg, .string D, .int .i64 (e - (n : Int))], .bool true]) (by simp [results, Tryd.results65, go_sem, c0_0, c0_1, c0_2]) rfl ⟨rfl, by repeat (first | with_reducible exact HBB.out | with_reducible exact Below.refl _ _ | with_reducible refine Below.drew ?_ | with_reducible refine belowN ?_ _ | with_reducible refine Below.setCell ?_ (by first | omega | (simp; done) | (simp; omega)) _ | with_reducible refine Below.alloc ?_ (by first | omega | (simp; done) | (simp; omega)) _)⟩

set_option maxRecDepth 100000 in
set_option maxHeartbeats 1600000 in
theorem nof_ok_f (s r0 wh r1 a fr r2 wf D : ByteArray) (neg : Bool) (e : Int) (w : World) (HCP1 : Hid (∀ w, Calls Tryd.prog 68 #[.string s, .string ⟨#[45]⟩] w fun e w' => e = .returned (.tuple #[.string r0, .bool neg]) ∧ w' = w)) (HC1 : Hid (∀ w : World, Calls Tryd.prog 69 #[.string r0] w fun e w' => e = .returned (.tuple #[.string wh, .string r1]) ∧ Below w.heap.size w w')) (hs : (s.size : Int) ≤ 60) (hw : wh.toList.isEmpty = false) (HCP2 : Hid (∀ w, Calls Tryd.prog 68 #[.string r1, .string ⟨#[46]⟩] w fun e w' => e = .returned (.tuple #[.string a, .bool false]) ∧ w' = w)) (HEX : Hid (∀ w : World, Calls Tryd.prog 70 #[.string r1] w fun q w' => q = .returned (.tuple #[.int .i64 e, .bool true]) ∧ Below w.heap.size w w')) (hadd : ∀ w, (Op.stringOp .add wh ⟨#[]⟩).run Tryd.prog w = .ok (.string wf) w) (HTL : Hid (∀ w, Calls Tryd.prog 71 #[.string wf, .string ⟨#[48]⟩] w fun e w' => e = .returned (.string D) ∧ w' = w)) (he1 : -1000 ≤ e) (he2 : e ≤ 1000) (n : Nat) :
    Calls Tryd.prog 65 #[.string s] w fun q w' => q = .returned (.tuple #[.agg #[.bool neg, .string D, .int .i64 e], .bool true]) ∧ Below w.heap.size w w' := by
  go_enter Tryd.func65, Tryd.ntmps65
  go_wp2_with fail
  refine (HCP1.out _).mono ?_
  rintro q w0 ⟨rfl, rfl⟩
  go_wp2_with fail
  refine (HC1.out _).mono ?_
  rintro q w1 ⟨rfl, hb1⟩
  have f0_0 : w1.frozen? ⟨w.heap.size, 0, none⟩ = false := carryF hb1 (v := .bool false) (by first | with_reducible assumption | go_simp) (by first | with_reducible assumption | go_simp)
  have f0_1 : w1.frozen? ⟨w.heap.size, 1, none⟩ = false := carryF hb1 (v := .string ⟨#[]⟩) (by first | with_reducible assumption | go_simp) (by first | with_reducible assumption | go_simp)
  have f0_2 : w1.frozen? ⟨w.heap.size, 2, none⟩ = false := carryF hb1 (v := .int .i64 0) (by first | with_reducible assumption | go_simp) (by first | with_reducible assumption | go_simp)
  have c0_0 : w1.cell? ⟨w.heap.size, 0, none⟩ = some (.bool false) := carry hb1 (by first | with_reducible assumption | go_simp)
  have c0_1 : w1.cell? ⟨w.heap.size, 1, none⟩ = some (.string ⟨#[]⟩) := carry hb1 (by first | with_reducible assumption | go_simp)
  have c0_2 : w1.cell? ⟨w.heap.size, 2, none⟩ = some (.int .i64 0) := carry hb1 (by first | with_reducible assumption | go_simp)
  have z0 : w.heap.size < w1.heap.size := by have := hb1.size; first | omega | (simp at this; omega)
  have HBB := Lib.hid ((by repeat (first | with_reducible exact Below.refl _ _ | with_reducible refine Below.setCell ?_ (by first | omega | (simp; done) | (simp; omega)) _ | with_reducible refine Below.drew ?_ | with_reducible refine belowN ?_ _ | with_reducible refine Below.alloc ?_ (by first | omega | (simp; done) | (simp; omega)) _) : Below w.heap.size w _).trans (hb1.mono (by first | omega | (simp; done) | (simp; omega))))
  clear hb1
  go_wp2_with fail
  refine (HCP2.out _).mono ?_
  rintro q w2 ⟨rfl, rfl⟩
  go_wp2_with fail
  refine (HEX.out _).mono ?_
  rintro q w4 ⟨rfl, hb1⟩
  have f0_0 : w4.frozen? ⟨w.heap.size, 0, none⟩ = false := carryF hb1 (v := .bool false) (by first | with_reducible assumption | go_simp) (by first | with_reducible assumption | go_simp)
  have f0_1 : w4.frozen? ⟨w.heap.size, 1, none⟩ = false := carryF hb1 (v := .string ⟨#[]⟩) (by first | with_reducible assumption | go_simp) (by first | with_reducible assumption | go_simp)
  have f0_2 : w4.frozen? ⟨w.heap.size, 2, none⟩ = false := carryF hb1 (v := .int .i64 0) (by first | with_reducible assumption | go_simp) (by first | with_reducible assumption | go_simp)
  have c0_0 : w4.cell? ⟨w.heap.size, 0, none⟩ = some (.bool false) := carry hb1 (by first | with_reducible assumption | go_simp)
  have c0_1 : w4.cell? ⟨w.heap.size, 1, none⟩ = some (.string ⟨#[]⟩) := carry hb1 (by first | with_reducible assumption | go_simp)
  have c0_2 : w4.cell? ⟨w.heap.size, 2, none⟩ = some (.int .i64 0) := carry hb1 (by first | with_reducible assumption | go_simp)
  have z0 : w.heap.size < w4.heap.size := by have := hb1.size; first | omega | (simp at this; omega)
  have HBB := Lib.hid ((by repeat (first | with_reducible exact HBB.out | with_reducible refine Below.setCell ?_ (by first | omega | (simp; done) | (simp; omega)) _ | with_reducible refine Below.drew ?_ | with_reducible refine belowN ?_ _ | with_reducible refine Below.alloc ?_ (by first | omega | (simp; done) | (simp; omega)) _) : Below w.heap.size w _).trans (hb1.mono (by first | omega | (simp; done) | (simp; omega))))
  clear hb1
  go_wp2_with fail
  refine (HTL.out _).mono ?_
  rintro q w5 ⟨rfl, rfl⟩
  go_wp2_with fail
  refine bodyPost_ret (v := .tuple #[.agg #[.bool neg, .string D, .int .i64 e], .bool true]) (by simp [results, Tryd.results65, go_sem, c0_0, c0_1, c0_2]) rfl ⟨rfl, by repeat (first | with_reducible exact HBB.out | with_reducible exact Below.refl _ _ | with_reducible refine Below.drew ?_ | with_reducible refine belowN ?_ _ | with_reducible refine Below.setCell ?_ (by first | omega | (simp; done) | (simp; omega)) _ | with_reducible refine Below.alloc ?_ (by first | omega | (simp; done) | (simp; omega)) _)⟩

end Go.Proofs.YtnmifeiokhpcfaaDoor.re

namespace Go.Proofs.YtnmifeiokhpcfaaDoor.re
open Go.RowKit
set_option linter.unusedVariables false

def numF (l : List UInt8) : Option (Bool × List UInt8 × Int) :=
  if 60 < l.length ∨ hdD (Lib.trimPrefix l [45]) = [] then none
  else if Lib.hasPrefix (tlD (Lib.trimPrefix l [45])) [46] then
    if hdD (Lib.trimPrefix (tlD (Lib.trimPrefix l [45])) [46]) = [] then none
    else match expF (tlD (Lib.trimPrefix (tlD (Lib.trimPrefix l [45])) [46])) with
      | none => none
      | some e => some (Lib.hasPrefix l [45], Lib.trimLeftB (hdD (Lib.trimPrefix l [45]) ++ hdD (Lib.trimPrefix (tlD (Lib.trimPrefix l [45])) [46])) 48, e - ((hdD (Lib.trimPrefix (tlD (Lib.trimPrefix l [45])) [46])).length : Int))
  else match expF (tlD (Lib.trimPrefix l [45])) with
    | none => none
    | some e => some (Lib.hasPrefix l [45], Lib.trimLeftB (hdD (Lib.trimPrefix l [45])) 48, e)

def numV (l : List UInt8) : Value := match numF l with
  | some (n, d, e) => .tuple #[.agg #[.bool n, .string (bs d), .int .i64 e], .bool true]
  | none => .tuple #[.agg #[.bool false, .string ⟨#[]⟩, .int .i64 0], .bool false]

theorem tl_le (l : List UInt8) : (tlD l).length ≤ l.length := by have := hd_len l; omega

theorem expF_bd (l : List UInt8) (e : Int) (h : expF l = some e) : -1000 ≤ e ∧ e ≤ 1000 := by
  unfold expF at h
  split at h
  · cases h
    decide
  · split at h
    · cases h
    · have := exV_bd (hdD (expR l)) 0 (by decide) (by decide)
      change 0 ≤ exV _ ∧ exV _ ≤ 1000 at this
      split at h <;> cases h <;> omega

theorem exO_some {l : List UInt8} {e : Int} (h : expF l = some e) : exO l = .tuple #[.int .i64 e, .bool true] := by unfold exO; rw [h]

theorem exO_none {l : List UInt8} (h : expF l = none) : exO l = .tuple #[.int .i64 0, .bool false] := by unfold exO; rw [h]

theorem bs_append (a b : List UInt8) : bs a ++ bs b = bs (a ++ b) := by
  apply ByteArray.ext
  simp

theorem add_run (a b : List UInt8) (h : a.length + b.length ≤ 9223372036854775807) (w : World) : (Op.stringOp .add (bs a) (bs b)).run Tryd.prog w = .ok (.string (bs (a ++ b))) w := by
  have h2 : ¬ ((((bs a).size + (bs b).size : Nat) : Int) > IntKind.i64.max) := by
    rw [bs_size, bs_size]
    have : IntKind.i64.max = 9223372036854775807 := by rfl
    omega
  unfold Op.stringOp
  simp only [h2, if_false]
  rw [bs_append]
  rfl

set_option maxRecDepth 100000 in
theorem nof_any (l : List UInt8) (w : World) (hl : l.length ≤ 9223372036854775807) :
    Calls Tryd.prog 65 #[.string (bs l)] w fun q w' => q = .returned (numV l) ∧ Below w.heap.size w w' := by
  obtain ⟨r0, hr0⟩ : ∃ r0, Lib.trimPrefix l [45] = r0 := ⟨_, rfl⟩
  have l0 : r0.length ≤ l.length := by rw [← hr0]; exact trim_len l [45]
  have H1 : Hid (∀ w, Calls Tryd.prog 68 #[.string (bs l), .string ⟨#[45]⟩] w fun e w' => e = .returned (.tuple #[.string (bs r0), .bool (Lib.hasPrefix l [45])]) ∧ w' = w) := Lib.hid (fun w => by have := Tryd.strings_CutPrefix (bs l) ⟨#[45]⟩ w; rw [hr0] at this; exact this)
  have H2 := Lib.hid (fun w : World => cut_d r0 w (by omega))
  have l1 := tl_le r0
  unfold numV numF
  rw [hr0]
  by_cases hs : 60 < l.length
  · rw [if_pos (Or.inl hs)]
    exact nof_long_f (bs l) (bs r0) _ _ (bs []) (bs []) (bs []) (bs []) (bs []) _ 0 w H1 H2 (by rw [bs_size]; omega)
  · by_cases hw : hdD r0 = []
    · rw [if_pos (Or.inr hw)]
      exact nof_empty_f (bs l) (bs r0) _ _ (bs []) (bs []) (bs []) (bs []) (bs []) _ 0 w H1 H2 (by rw [bs_size]; omega) (by rw [hw, ne_iff]; rfl)
    · rw [if_neg (by intro q; rcases q with q | q; exact hs q; exact hw q)]
      have hw2 : (bs (hdD r0)).toList.isEmpty = false := by rw [ne_iff]; simpa using hw
      have hs2 : ((bs l).size : Int) ≤ 60 := by rw [bs_size]; omega
      have l2 := hd_le r0
      obtain ⟨r1, hr1⟩ : ∃ r1, tlD r0 = r1 := ⟨_, rfl⟩
      rw [hr1] at H2 l1 ⊢
      obtain ⟨a, ha⟩ : ∃ a, Lib.trimPrefix r1 [46] = a := ⟨_, rfl⟩
      have l3 : a.length ≤ r1.length := by rw [← ha]; exact trim_len r1 [46]
      have l4 := hd_le a
      have l5 := tl_le a
      cases hf : Lib.hasPrefix r1 [46]
      · have H3 : Hid (∀ w, Calls Tryd.prog 68 #[.string (bs r1), .string ⟨#[46]⟩] w fun e w' => e = .returned (.tuple #[.string (bs a), .bool false]) ∧ w' = w) := Lib.hid (fun w => by have := Tryd.strings_CutPrefix (bs r1) ⟨#[46]⟩ w; simp only [ha, hf] at this; exact this)
        simp only [Bool.false_eq_true, if_false]
        cases he : expF r1 with
        | none => exact nof_bad_f (bs l) (bs r0) _ (bs r1) (bs a) (bs []) (bs []) (bs []) (bs []) _ 0 w H1 H2 hs2 hw2 H3 (Lib.hid fun w => by have := ex_any r1 w (by omega); rwa [exO_none he] at this)
        | some e =>
          obtain ⟨b1, b2⟩ := expF_bd r1 e he
          exact nof_ok_f (bs l) (bs r0) _ (bs r1) (bs a) (bs []) (bs []) (bs (hdD r0)) (bs (Lib.trimLeftB (hdD r0) 48)) _ e w H1 H2 hs2 hw2 H3 (Lib.hid fun w => by have := ex_any r1 w (by omega); rwa [exO_some he] at this) (fun w => by have := add_run (hdD r0) [] (by simp; omega) w; rwa [List.append_nil] at this) (Lib.hid fun w => Tryd.strings_TrimLeft_one (bs (hdD r0)) 48 (by decide) w) b1 b2 0
      · have H3 : Hid (∀ w, Calls Tryd.prog 68 #[.string (bs r1), .string ⟨#[46]⟩] w fun e w' => e = .returned (.tuple #[.string (bs a), .bool true]) ∧ w' = w) := Lib.hid (fun w => by have := Tryd.strings_CutPrefix (bs r1) ⟨#[46]⟩ w; simp only [ha, hf] at this; exact this)
        have H4 := Lib.hid (fun w : World => cut_d a w (by omega))
        rw [ha]
        simp only [if_true]
        by_cases hfr : hdD a = []
        · rw [if_pos hfr]
          exact nof_nofr_t (bs l) (bs r0) _ (bs r1) (bs a) _ _ (bs []) (bs []) _ 0 w H1 H2 hs2 hw2 H3 H4 (by rw [hfr, ne_iff]; rfl)
        · rw [if_neg hfr]
          have hfr2 : (bs (hdD a)).toList.isEmpty = false := by rw [ne_iff]; simpa using hfr
          cases he : expF (tlD a) with
          | none => exact nof_bad_t (bs l) (bs r0) _ (bs r1) (bs a) _ _ (bs []) (bs []) _ 0 w H1 H2 hs2 hw2 H3 H4 hfr2 (Lib.hid fun w => by have := ex_any (tlD a) w (by omega); rwa [exO_none he] at this)
          | some e =>
            obtain ⟨b1, b2⟩ := expF_bd (tlD a) e he
            exact nof_ok_t (bs l) (bs r0) _ (bs r1) (bs a) _ _ (bs (hdD r0 ++ hdD a)) (bs (Lib.trimLeftB (hdD r0 ++ hdD a) 48)) _ e w H1 H2 hs2 hw2 H3 H4 hfr2 (Lib.hid fun w => by have := ex_any (tlD a) w (by omega); rwa [exO_some he] at this) (fun w => add_run (hdD r0) (hdD a) (by omega) w) (Lib.hid fun w => Tryd.strings_TrimLeft_one (bs (hdD r0 ++ hdD a)) 48 (by decide) w) b1 b2 (hdD a).length (bs_size _) (by omega)

/-- what scaled returns -/
def scM (V : Nat) (e : Int) : Int := if 0 ≤ e then ldM (V * 10 ^ e.toNat) false else ldM (V / 10 ^ (-e).toNat) (decide (V % 10 ^ (-e).toNat ≠ 0))

def scE (V : Nat) (e : Int) : Int := if 0 ≤ e then ldE (V * 10 ^ e.toNat) else ldE (V / 10 ^ (-e).toNat)

theorem sc_any (V : Nat) (e : Int) (w : World) (hT : P10 w) (h1 : -2000 ≤ e) (h2 : e ≤ 2000) (hV : V < BB ^ 7) (hV2 : 0 ≤ e → V * 10 ^ e.toNat < BB ^ 7) (HDiv : Hid (∀ s, s ≤ 19 → DivOk (10 ^ s))) :
    Calls Tryd.prog 75 #[digV V, .int .i64 e] w fun r w' => r = .returned (realV (scM V e) (scE V e)) ∧ Below w.heap.size w w' := by
  unfold scM scE
  by_cases h : 0 ≤ e
  · rw [if_pos h, if_pos h]
    have := scp_any V e.toNat w hT (by omega) (hV2 h)
    rwa [show ((e.toNat : Nat) : Int) = e from by omega] at this
  · rw [if_neg h, if_neg h]
    have := scn_any V (-e).toNat w hT (by omega) (by omega) hV HDiv
    rwa [show -(((-e).toNat : Nat) : Int) = e from by omega] at this

theorem stk_abs (m : Nat) (t : Bool) (h : m < 4611686018427387904) : 0 ≤ stk (m : Int) t ∧ stk (m : Int) t ≤ 9223372036854775807 := by
  have := stk_bd (m : Int) t
  omega

theorem ldM_bd (V : Nat) (t : Bool) (h : V < BB ^ 7) : 0 ≤ ldM V t ∧ ldM V t ≤ 9223372036854775807 ∧ -193 ≤ ldE V ∧ ldE V ≤ 193 := by
  obtain ⟨b1, b2⟩ := ld_bd V h
  obtain ⟨c1, c2⟩ := stk_abs (V / 2 ^ ldF V) (decide (V % 2 ^ ldF V ≠ 0) || t) b1
  refine ⟨c1, c2, ?_, ?_⟩ <;> unfold ldE <;> omega

theorem sc_bd (V : Nat) (e : Int) (hV : V < BB ^ 7) (hV2 : 0 ≤ e → V * 10 ^ e.toNat < BB ^ 7) : 0 ≤ scM V e ∧ scM V e ≤ 9223372036854775807 ∧ -193 ≤ scE V e ∧ scE V e ≤ 193 := by
  unfold scM scE
  by_cases h : 0 ≤ e
  · rw [if_pos h, if_pos h]
    exact ldM_bd _ _ (hV2 h)
  · rw [if_neg h, if_neg h]
    exact ldM_bd _ _ (Nat.lt_of_le_of_lt (Nat.div_le_self _ _) hV)

end Go.Proofs.YtnmifeiokhpcfaaDoor.re

namespace Go.Proofs.YtnmifeiokhpcfaaDoor.re
open Go.RowKit
set_option linter.unusedVariables false

/-- the number that digits denote -/
def nmV (l : List UInt8) : Nat := l.foldl (fun v c => 10 * v + (c.toNat - 48)) 0

theorem nmV_snoc (l : List UInt8) (k : Nat) (h : k < l.length) : nmV (l.take (k + 1)) = 10 * nmV (l.take k) + (l[k].toNat - 48) := by
  unfold nmV
  rw [List.take_succ_eq_append_getElem h, List.foldl_append]
  rfl

theorem nmV_lt : ∀ (l : List UInt8) (v n : Nat), v < 10 ^ n → (∀ b ∈ l, b.toNat ≤ 57) → l.foldl (fun v c => 10 * v + (c.toNat - 48)) v < 10 ^ (n + l.length)
  | [], v, n, h, _ => by simpa using h
  | c :: l, v, n, h, hd => by
    have hc := hd c (by simp)
    have := nmV_lt l (10 * v + (c.toNat - 48)) (n + 1) (by rw [Nat.pow_succ]; omega) (fun b hb => hd b (by simp [hb]))
    rwa [show n + 1 + l.length = n + (c :: l).length from by simp; omega] at this

theorem p10_bb (n : Nat) (h : n ≤ 60) : 10 ^ n < BB ^ 4 := Nat.lt_of_le_of_lt (Nat.pow_le_pow_right (by decide) h) (by decide)

theorem dg_shift (V j : Nat) : dg (V * BB ^ 3) (3 + j) = dg V j := by
  unfold dg
  rw [Nat.pow_add, ← Nat.div_div_eq_div_mul, Nat.mul_div_cancel _ (bbpos 3)]

theorem dg_low (V i : Nat) (h : i < 3) : dg (V * BB ^ 3) i = 0 := by
  unfold dg
  obtain ⟨d, hd⟩ : ∃ d, 3 = i + 1 + d := ⟨2 - i, by omega⟩
  have : V * BB ^ 3 / BB ^ i = V * BB ^ d * BB := by
    rw [hd, Nat.pow_add, Nat.pow_succ]
    have e : V * (BB ^ i * BB * BB ^ d) = BB ^ i * (V * BB ^ d * BB) := by ac_rfl
    rw [e, Nat.mul_div_cancel_left _ (bbpos i)]
  rw [this, Nat.mul_mod_left]

/-- a number in fixed point in block n + 2, its lower limbs 0; the receiver and the result ahead of it -/
structure NSt (w : World) (n V : Nat) (t : Bool) (s : ByteArray) (e : Int) (wr : World) : Prop where
  a0 : wr.cell? ⟨n, 0, none⟩ = some (.bool t)
  a1 : wr.cell? ⟨n, 1, none⟩ = some (.string s)
  a2 : wr.cell? ⟨n, 2, none⟩ = some (.int .i64 e)
  r0 : wr.cell? ⟨n + 1, 0, none⟩ = some (.int .i64 0)
  r1 : wr.cell? ⟨n + 1, 1, none⟩ = some (.int .i64 0)
  f0 : wr.frozen? ⟨n + 1, 0, none⟩ = false
  f1 : wr.frozen? ⟨n + 1, 1, none⟩ = false
  lo : ∀ i, i < 3 → wr.cell? ⟨n + 2, i, none⟩ = some (.int .u64 0)
  hi : Dig wr (n + 2) 3 4 V
  z : n + 2 < wr.heap.size
  bel : Below n w wr

theorem NSt.only {w wr w' : World} {n V V' : Nat} {t : Bool} {s : ByteArray} {e : Int} (h : NSt w n V t s e wr) (k : OnlyR (n + 2) 3 4 wr w') (d : Dig w' (n + 2) 3 4 V') : NSt w n V' t s e w' :=
  ⟨(k.toOnly.cell (p := ⟨n, 0, none⟩) (by simp)).trans h.a0, (k.toOnly.cell (p := ⟨n, 1, none⟩) (by simp)).trans h.a1, (k.toOnly.cell (p := ⟨n, 2, none⟩) (by simp)).trans h.a2, (k.toOnly.cell (p := ⟨n + 1, 0, none⟩) (by simp)).trans h.r0, (k.toOnly.cell (p := ⟨n + 1, 1, none⟩) (by simp)).trans h.r1, (k.toOnly.froz (p := ⟨n + 1, 0, none⟩) (by simp)).trans h.f0, (k.toOnly.froz (p := ⟨n + 1, 1, none⟩) (by simp)).trans h.f1, fun i hi => (k.rest i (Or.inl hi)).trans (h.lo i hi), d, by rw [k.toOnly.size]; exact h.z, k.toOnly.below h.bel (by omega)⟩

theorem NSt.drew {w wr : World} {n V : Nat} {t : Bool} {s : ByteArray} {e : Int} (h : NSt w n V t s e wr) : NSt w n V t s e wr.drew :=
  ⟨by simpa using h.a0, by simpa using h.a1, by simpa using h.a2, by simpa using h.r0, by simpa using h.r1, by simpa using h.f0, by simpa using h.f1, fun i hi => by simpa using h.lo i hi, fun i hi => by simpa using h.hi i hi, by simpa using h.z, h.bel.drew⟩

theorem Dig.zero (w : World) (T : TypeId) : Dig (w.alloc (Obj.cells #[Value.int IntKind.u64 0, Value.int IntKind.u64 0, Value.int IntKind.u64 0, Value.int IntKind.u64 0, Value.int IntKind.u64 0, Value.int IntKind.u64 0, Value.int IntKind.u64 0] T)) w.heap.size 3 4 0 := by
  intro i hi
  have : i = 0 ∨ i = 1 ∨ i = 2 ∨ i = 3 := by omega
  have e : ∀ i, dg 0 i = 0 := fun i => by simp [dg]
  rcases this with rfl | rfl | rfl | rfl <;> rw [e] <;> exact ⟨by go_simp, by go_simp⟩

theorem NSt.start (w : World) (t : Bool) (s : ByteArray) (e : Int) : NSt w w.heap.size 0 t s e (((w.alloc (Obj.cells #[Value.bool t, Value.string s, Value.int IntKind.i64 e] 97)).alloc (Obj.cells #[Value.int IntKind.i64 0, Value.int IntKind.i64 0] 110)).alloc (Obj.cells #[Value.int IntKind.u64 0, Value.int IntKind.u64 0, Value.int IntKind.u64 0, Value.int IntKind.u64 0, Value.int IntKind.u64 0, Value.int IntKind.u64 0, Value.int IntKind.u64 0] 113)) :=
  ⟨by go_simp, by go_simp, by go_simp, by go_simp, by go_simp, by go_simp, by go_simp, fun i hi => by
    have : i = 0 ∨ i = 1 ∨ i = 2 := by omega
    rcases this with rfl | rfl | rfl <;> go_simp, by have := Dig.zero ((w.alloc (Obj.cells #[Value.bool t, Value.string s, Value.int IntKind.i64 e] 97)).alloc (Obj.cells #[Value.int IntKind.i64 0, Value.int IntKind.i64 0] 110)) 113; simpa using this, by simp, (((Below.refl _ _).alloc (Nat.le_refl _) _).alloc (by simp) _).alloc (by simp; omega) _⟩

set_option maxRecDepth 100000 in
set_option maxHeartbeats 1600000 in
theorem nm_zero (t : Bool) (s : ByteArray) (e : Int) (w : World) (hs : s.toList.isEmpty = true) :
    Calls Tryd.prog 67 #[.agg #[.bool t, .string s, .int .i64 e]] w fun r w' => r = .returned (realV 0 0) ∧ Below w.heap.size w w' := by
  go_enter Tryd.func67, Tryd.ntmps67
  go_wp2_with fail
  refine bodyPost_ret (v := realV 0 0) (by simp [results, Tryd.results67, go_sem]) rfl ⟨rfl, by repeat (first | with_reducible exact HBB.out | with_reducible exact Below.refl _ _ | with_reducible refine Below.drew ?_ | with_reducible refine belowN ?_ _ | with_reducible refine Below.setCell ?_ (by first | omega | (simp; done) | (simp; omega)) _ | with_reducible refine Below.alloc ?_ (by first | omega | (simp; done) | (simp; omega)) _)⟩

set_option maxRecDepth 100000 in
set_option maxHeartbeats 1600000 in
theorem nm_over (t : Bool) (s : ByteArray) (e n : Int) (w : World) (hs : s.toList.isEmpty = false) (hn : (s.size : Int) = n) (h1 : n ≤ 100) (h2 : 53 < n + e) (h3 : e ≤ 2000) :
    Calls Tryd.prog 67 #[.agg #[.bool t, .string s, .int .i64 e]] w fun r w' => r = .panicked [{ v := .iface 24 (.int .i64 3), recovered := false }] ∧ Below w.heap.size w w' := by
  have hw := wrap_in (n + e) (by omega) (by omega)
  go_enter Tryd.func67, Tryd.ntmps67
  go_wp2_with fail
  exact ⟨rfl, rfl, by repeat (first | with_reducible exact HBB.out | with_reducible exact Below.refl _ _ | with_reducible refine Below.drew ?_ | with_reducible refine belowN ?_ _ | with_reducible refine Below.setCell ?_ (by first | omega | (simp; done) | (simp; omega)) _ | with_reducible refine Below.alloc ?_ (by first | omega | (simp; done) | (simp; omega)) _)⟩

theorem nm_b (s : ByteArray) (e n : Int) (V : Nat) (hn : (s.size : Int) = n) (h1 : n ≤ 60) (h2 : n + e ≤ 53) (hV : nmV s.data.toList = V) (hdg : ∀ b ∈ s.data.toList, 48 ≤ b.toNat ∧ b.toNat ≤ 57) :
    V * BB ^ 3 < BB ^ 7 ∧ (0 ≤ e → V * BB ^ 3 * 10 ^ e.toNat < BB ^ 7) := by
  have hVlt : V < 10 ^ s.size := by
    rw [← hV, Lib.size_eq]
    have := nmV_lt s.data.toList 0 0 (by decide) (fun b hb => (hdg b hb).2)
    rwa [Nat.zero_add] at this
  have h4 : V < BB ^ 4 := Nat.lt_of_lt_of_le hVlt (Nat.le_of_lt (p10_bb s.size (by omega)))
  have e7 : BB ^ 7 = BB ^ 4 * BB ^ 3 := by rw [← Nat.pow_add]
  refine ⟨by rw [e7]; exact Nat.mul_lt_mul_of_pos_right h4 (bbpos 3), fun he => ?_⟩
  have a : V * 10 ^ e.toNat < 10 ^ 53 := by
    have b1 : V * 10 ^ e.toNat < 10 ^ s.size * 10 ^ e.toNat := Nat.mul_lt_mul_of_pos_right hVlt (Nat.pow_pos (by decide))
    rw [← Nat.pow_add] at b1
    exact Nat.lt_of_lt_of_le b1 (Nat.pow_le_pow_right (by decide) (by omega))
  rw [show V * BB ^ 3 * 10 ^ e.toNat = V * 10 ^ e.toNat * BB ^ 3 from by ac_rfl, e7]
  exact Nat.mul_lt_mul_of_pos_right (Nat.lt_trans a (p10_bb 53 (by decide))) (bbpos 3)

set_option maxRecDepth 100000 in
set_option maxHeartbeats 1600000 in
theorem nm_t (s : ByteArray) (e n : Int) (V : Nat) (w : World) (hT : P10 w) (HDiv : Hid (∀ s, s ≤ 19 → DivOk (10 ^ s))) (hs : s.toList.isEmpty = false) (hn : (s.size : Int) = n) (h1 : n ≤ 60) (h2 : n + e ≤ 53) (h3 : -1100 ≤ e) (hV : nmV s.data.toList = V) (hdg : ∀ b ∈ s.data.toList, 48 ≤ b.toNat ∧ b.toNat ≤ 57) :
    Calls Tryd.prog 67 #[.agg #[.bool true, .string s, .int .i64 e]] w fun r w' => r = .returned (realV (-(scM (V * BB ^ 3) e)) (scE (V * BB ^ 3) e)) ∧ Below w.heap.size w w' := by
  have hw := wrap_in (n + e) (by omega) (by omega)
  have HN := Lib.hid (NSt.start w true s e)
  have HT := Lib.hid hT
  have HV := Lib.hid hV
  have HDG := Lib.hid hdg
  have hlen : s.data.toList.length = s.size := (Lib.size_eq s).symm
  have HLEN := Lib.hid hlen
  clear hT hV hdg hlen
  go_enter Tryd.func67, Tryd.ntmps67
  go_wp2_with fail
  go_loopw [21] (fun i wr => ∃ k : Nat, k ≤ s.size ∧ i = .int .i64 k ∧ NSt w w.heap.size (nmV (s.data.toList.take k)) true s e wr) (fun i _ => s.size - (intOf i).toNat)
  case atStart => exact ⟨0, Nat.zero_le _, rfl, HN.out⟩
  case round =>
    obtain ⟨k, hk, rfl, hst⟩ := hrel
    have HW := Lib.hid hst
    clear hst HN
    by_cases hlt : k < s.size
    · have hb := HDG.out s[k] (by have : s[k] = s.data.toList[k]'(by rw [HLEN.out]; exact hlt) := rfl; rw [this]; exact List.getElem_mem _)
      have HS : Hid (nmV (s.data.toList.take (k + 1)) = nmV (s.data.toList.take k) * 10 + (s[k].toNat - 48)) := Lib.hid (by have := nmV_snoc s.data.toList k (by rw [HLEN.out]; exact hlt); rw [this]; have : s[k] = s.data.toList[k]'(by rw [HLEN.out]; exact hlt) := rfl; rw [this]; omega)
      obtain ⟨hb1, hb2⟩ := hb
      have hi1 : (48 : Int) ≤ (s[k].toNat : Int) := by omega
      have hi2 : (s[k].toNat : Int) ≤ 57 := by omega
      have hki : (k : Int) < (s.size : Int) := by omega
      have HD48 := Lib.hid (show ((s[k].toNat : Int) - 48) = ((s[k].toNat - 48 : Nat) : Int) from by omega)
      have HDB := Lib.hid (show s[k].toNat - 48 < BB from by simp only [BB]; omega)
      have a1 := HW.out.a1
      go_wp2_with fail
      go_still_tail 7, (by kernel_rfl)
      change wpList _ _ _ _ _ wr.drew
      go_wp2_with fail
      rw [HD48.out]
      refine (mul_any (w.heap.size + 2) 3 4 4 _ 10 _ wr.drew (by omega) (by decide) HDB.out HW.out.drew.hi).mono ?_
      rintro r w1 ⟨rfl, ho, hd⟩
      rw [← HS.out] at hd
      have HF1 := Lib.hid (HW.out.drew.only ho hd)
      clear ho hd
      go_wp2_with fail
      exact ⟨⟨k + 1, by omega, by simp, HF1.out⟩, by simp [intOf]; omega⟩
    · obtain rfl : k = s.size := by omega
      have HE : Hid (nmV (s.data.toList.take s.size) = V) := Lib.hid (by rw [← HLEN.out, List.take_length]; exact HV.out)
      rw [HE.out] at HW
      have a0 := HW.out.a0
      have a2 := HW.out.a2
      have z0 : w.heap.size < wr.heap.size := by have := HW.out.z; omega
      have z1 : w.heap.size + 1 < wr.heap.size := by have := HW.out.z; omega
      have z2 : w.heap.size + 1 + 1 < wr.heap.size := by have := HW.out.z; omega
      have d0 : wr.cell? ⟨w.heap.size + 1 + 1, 0, none⟩ = some (.int .u64 (dg (V * BB ^ 3) 0 : Int)) := by rw [dg_low V 0 (by decide)]; exact HW.out.lo 0 (by decide)
      have d1 : wr.cell? ⟨w.heap.size + 1 + 1, 1, none⟩ = some (.int .u64 (dg (V * BB ^ 3) 1 : Int)) := by rw [dg_low V 1 (by decide)]; exact HW.out.lo 1 (by decide)
      have d2 : wr.cell? ⟨w.heap.size + 1 + 1, 2, none⟩ = some (.int .u64 (dg (V * BB ^ 3) 2 : Int)) := by rw [dg_low V 2 (by decide)]; exact HW.out.lo 2 (by decide)
      have d3 : wr.cell? ⟨w.heap.size + 1 + 1, 3, none⟩ = some (.int .u64 (dg (V * BB ^ 3) 3 : Int)) := by rw [dg_shift V 0]; exact (HW.out.hi 0 (by decide)).1
      have d4 : wr.cell? ⟨w.heap.size + 1 + 1, 4, none⟩ = some (.int .u64 (dg (V * BB ^ 3) 4 : Int)) := by rw [dg_shift V 1]; exact (HW.out.hi 1 (by decide)).1
      have d5 : wr.cell? ⟨w.heap.size + 1 + 1, 5, none⟩ = some (.int .u64 (dg (V * BB ^ 3) 5 : Int)) := by rw [dg_shift V 2]; exact (HW.out.hi 2 (by decide)).1
      have d6 : wr.cell? ⟨w.heap.size + 1 + 1, 6, none⟩ = some (.int .u64 (dg (V * BB ^ 3) 6 : Int)) := by rw [dg_shift V 3]; exact (HW.out.hi 3 (by decide)).1
      go_wp2_with fail
      refine (sc_any (V * BB ^ 3) e wr (HT.out.kept HW.out.bel (Nat.le_refl _)) (by omega) (by omega) (nm_b s e n V hn h1 h2 HV.out HDG.out).1 (nm_b s e n V hn h1 h2 HV.out HDG.out).2 HDiv).mono ?_
      rintro r w2 ⟨rfl, hb2⟩
      have b0 : w2.cell? ⟨w.heap.size, 0, none⟩ = some (.bool true) := carry hb2 HW.out.a0
      have c1_0 : w2.cell? ⟨w.heap.size + 1, 0, none⟩ = some (.int .i64 0) := carry hb2 HW.out.r0
      have c1_1 : w2.cell? ⟨w.heap.size + 1, 1, none⟩ = some (.int .i64 0) := carry hb2 HW.out.r1
      have f1_0 : w2.frozen? ⟨w.heap.size + 1, 0, none⟩ = false := carryF hb2 (v := .int .i64 0) HW.out.r0 HW.out.f0
      have f1_1 : w2.frozen? ⟨w.heap.size + 1, 1, none⟩ = false := carryF hb2 (v := .int .i64 0) HW.out.r1 HW.out.f1
      have y0 : w.heap.size < w2.heap.size := Nat.lt_of_lt_of_le z0 hb2.size
      have y1 : w.heap.size + 1 < w2.heap.size := Nat.lt_of_lt_of_le z1 hb2.size
      have HBB := Lib.hid (HW.out.bel.trans (hb2.mono (by omega)))
      have hsb := sc_bd (V * BB ^ 3) e (nm_b s e n V hn h1 h2 HV.out HDG.out).1 (nm_b s e n V hn h1 h2 HV.out HDG.out).2
      clear hb2 d0 d1 d2 d3 d4 d5 d6 a0 a2 z0 z1 z2
      unfold realV
      generalize hm : scM (V * BB ^ 3) e = am at hsb ⊢
      generalize he : scE (V * BB ^ 3) e = ae at hsb ⊢
      have HQ := Lib.hid (And.intro hm he)
      clear hm he
      obtain ⟨q1, q2, q3, q4⟩ := hsb
      go_wp2_with fail
      refine bodyPost_ret (v := realV (-am) ae) (by simp [results, Tryd.results67, go_sem, c1_0, c1_1, y1]) rfl ⟨by rw [← HQ.out.1, ← HQ.out.2], by repeat (first | with_reducible exact HBB.out | with_reducible exact Below.refl _ _ | with_reducible refine Below.drew ?_ | with_reducible refine belowN ?_ _ | with_reducible refine Below.setCell ?_ (by first | omega | (simp; done) | (simp; omega)) _ | with_reducible refine Below.alloc ?_ (by first | omega | (simp; done) | (simp; omega)) _)⟩

set_option maxRecDepth 100000 in
set_option maxHeartbeats 1600000 in
theorem nm_f (s : ByteArray) (e n : Int) (V : Nat) (w : World) (hT : P10 w) (HDiv : Hid (∀ s, s ≤ 19 → DivOk (10 ^ s))) (hs : s.toList.isEmpty = false) (hn : (s.size : Int) = n) (h1 : n ≤ 60) (h2 : n + e ≤ 53) (h3 : -1100 ≤ e) (hV : nmV s.data.toList = V) (hdg : ∀ b ∈ s.data.toList, 48 ≤ b.toNat ∧ b.toNat ≤ 57) :
    Calls Tryd.prog 67 #[.agg #[.bool false, .string s, .int .i64 e]] w fun r w' => r = .returned (realV ((scM (V * BB ^ 3) e)) (scE (V * BB ^ 3) e)) ∧ Below w.heap.size w w' := by
  have hw := wrap_in (n + e) (by omega) (by omega)
  have HN := Lib.hid (NSt.start w false s e)
  have HT := Lib.hid hT
  have HV := Lib.hid hV
  have HDG := Lib.hid hdg
  have hlen : s.data.toList.length = s.size := (Lib.size_eq s).symm
  have HLEN := Lib.hid hlen
  clear hT hV hdg hlen
  go_enter Tryd.func67, Tryd.ntmps67
  go_wp2_with fail
  go_loopw [21] (fun i wr => ∃ k : Nat, k ≤ s.size ∧ i = .int .i64 k ∧ NSt w w.heap.size (nmV (s.data.toList.take k)) false s e wr) (fun i _ => s.size - (intOf i).toNat)
  case atStart => exact ⟨0, Nat.zero_le _, rfl, HN.out⟩
  case round =>
    obtain ⟨k, hk, rfl, hst⟩ := hrel
    have HW := Lib.hid hst
    clear hst HN
    by_cases hlt : k < s.size
    · have hb := HDG.out s[k] (by have : s[k] = s.data.toList[k]'(by rw [HLEN.out]; exact hlt) := rfl; rw [this]; exact List.getElem_mem _)
      have HS : Hid (nmV (s.data.toList.take (k + 1)) = nmV (s.data.toList.take k) * 10 + (s[k].toNat - 48)) := Lib.hid (by have := nmV_snoc s.data.toList k (by rw [HLEN.out]; exact hlt); rw [this]; have : s[k] = s.data.toList[k]'(by rw [HLEN.out]; exact hlt) := rfl; rw [this]; omega)
      obtain ⟨hb1, hb2⟩ := hb
      have hi1 : (48 : Int) ≤ (s[k].toNat : Int) := by omega
      have hi2 : (s[k].toNat : Int) ≤ 57 := by omega
      have hki : (k : Int) < (s.size : Int) := by omega
      have HD48 := Lib.hid (show ((s[k].toNat : Int) - 48) = ((s[k].toNat - 48 : Nat) : Int) from by omega)
      have HDB := Lib.hid (show s[k].toNat - 48 < BB from by simp only [BB]; omega)
      have a1 := HW.out.a1
      go_wp2_with fail
      go_still_tail 7, (by kernel_rfl)
      change wpList _ _ _ _ _ wr.drew
      go_wp2_with fail
      rw [HD48.out]
      refine (mul_any (w.heap.size + 2) 3 4 4 _ 10 _ wr.drew (by omega) (by decide) HDB.out HW.out.drew.hi).mono ?_
      rintro r w1 ⟨rfl, ho, hd⟩
      rw [← HS.out] at hd
      have HF1 := Lib.hid (HW.out.drew.only ho hd)
      clear ho hd
      go_wp2_with fail
      exact ⟨⟨k + 1, by omega, by simp, HF1.out⟩, by simp [intOf]; omega⟩
    · obtain rfl : k = s.size := by omega
      have HE : Hid (nmV (s.data.toList.take s.size) = V) := Lib.hid (by rw [← HLEN.out, List.take_length]; exact HV.out)
      rw [HE.out] at HW
      have a0 := HW.out.a0
      have a2 := HW.out.a2
      have z0 : w.heap.size < wr.heap.size := by have := HW.out.z; omega
      have z1 : w.heap.size + 1 < wr.heap.size := by have := HW.out.z; omega
      have z2 : w.heap.size + 1 + 1 < wr.heap.size := by have := HW.out.z; omega
      have d0 : wr.cell? ⟨w.heap.size + 1 + 1, 0, none⟩ = some (.int .u64 (dg (V * BB ^ 3) 0 : Int)) := by rw [dg_low V 0 (by decide)]; exact HW.out.lo 0 (by decide)
      have d1 : wr.cell? ⟨w.heap.size + 1 + 1, 1, none⟩ = some (.int .u64 (dg (V * BB ^ 3) 1 : Int)) := by rw [dg_low V 1 (by decide)]; exact HW.out.lo 1 (by decide)
      have d2 : wr.cell? ⟨w.heap.size + 1 + 1, 2, none⟩ = some (.int .u64 (dg (V * BB ^ 3) 2 : Int)) := by rw [dg_low V 2 (by decide)]; exact HW.out.lo 2 (by decide)
      have d3 : wr.cell? ⟨w.heap.size + 1 + 1, 3, none⟩ = some (.int .u64 (dg (V * BB ^ 3) 3 : Int)) := by rw [dg_shift V 0]; exact (HW.out.hi 0 (by decide)).1
      have d4 : wr.cell? ⟨w.heap.size + 1 + 1, 4, none⟩ = some (.int .u64 (dg (V * BB ^ 3) 4 : Int)) := by rw [dg_shift V 1]; exact (HW.out.hi 1 (by decide)).1
      have d5 : wr.cell? ⟨w.heap.size + 1 + 1, 5, none⟩ = some (.int .u64 (dg (V * BB ^ 3) 5 : Int)) := by rw [dg_shift V 2]; exact (HW.out.hi 2 (by decide)).1
      have d6 : wr.cell? ⟨w.heap.size + 1 + 1, 6, none⟩ = some (.int .u64 (dg (V * BB ^ 3) 6 : Int)) := by rw [dg_shift V 3]; exact (HW.out.hi 3 (by decide)).1
      go_wp2_with fail
      refine (sc_any (V * BB ^ 3) e wr (HT.out.kept HW.out.bel (Nat.le_refl _)) (by omega) (by omega) (nm_b s e n V hn h1 h2 HV.out HDG.out).1 (nm_b s e n V hn h1 h2 HV.out HDG.out).2 HDiv).mono ?_
      rintro r w2 ⟨rfl, hb2⟩
      have b0 : w2.cell? ⟨w.heap.size, 0, none⟩ = some (.bool false) := carry hb2 HW.out.a0
      have c1_0 : w2.cell? ⟨w.heap.size + 1, 0, none⟩ = some (.int .i64 0) := carry hb2 HW.out.r0
      have c1_1 : w2.cell? ⟨w.heap.size + 1, 1, none⟩ = some (.int .i64 0) := carry hb2 HW.out.r1
      have f1_0 : w2.frozen? ⟨w.heap.size + 1, 0, none⟩ = false := carryF hb2 (v := .int .i64 0) HW.out.r0 HW.out.f0
      have f1_1 : w2.frozen? ⟨w.heap.size + 1, 1, none⟩ = false := carryF hb2 (v := .int .i64 0) HW.out.r1 HW.out.f1
      have y0 : w.heap.size < w2.heap.size := Nat.lt_of_lt_of_le z0 hb2.size
      have y1 : w.heap.size + 1 < w2.heap.size := Nat.lt_of_lt_of_le z1 hb2.size
      have HBB := Lib.hid (HW.out.bel.trans (hb2.mono (by omega)))
      have hsb := sc_bd (V * BB ^ 3) e (nm_b s e n V hn h1 h2 HV.out HDG.out).1 (nm_b s e n V hn h1 h2 HV.out HDG.out).2
      clear hb2 d0 d1 d2 d3 d4 d5 d6 a0 a2 z0 z1 z2
      unfold realV
      generalize hm : scM (V * BB ^ 3) e = am at hsb ⊢
      generalize he : scE (V * BB ^ 3) e = ae at hsb ⊢
      have HQ := Lib.hid (And.intro hm he)
      clear hm he
      obtain ⟨q1, q2, q3, q4⟩ := hsb
      go_wp2_with fail
      refine bodyPost_ret (v := realV (am) ae) (by simp [results, Tryd.results67, go_sem, c1_0, c1_1, y1]) rfl ⟨by rw [← HQ.out.1, ← HQ.out.2], by repeat (first | with_reducible exact HBB.out | with_reducible exact Below.refl _ _ | with_reducible refine Below.drew ?_ | with_reducible refine belowN ?_ _ | with_reducible refine Below.setCell ?_ (by first | omega | (simp; done) | (simp; omega)) _ | with_reducible refine Below.alloc ?_ (by first | omega | (simp; done) | (simp; omega)) _)⟩

end Go.Proofs.YtnmifeiokhpcfaaDoor.re

namespace Go.Proofs.YtnmifeiokhpcfaaDoor.re
open Go.RowKit
set_option linter.unusedVariables false

set_option maxRecDepth 100000 in
set_option maxHeartbeats 1600000 in
theorem ps_bad (s : ByteArray) (w : World) (HN : Hid (∀ w : World, Calls Tryd.prog 65 #[.string s] w fun q w' => q = .returned (.tuple #[.agg #[.bool false, .string ⟨#[]⟩, .int .i64 0], .bool false]) ∧ Below w.heap.size w w')) :
    Calls Tryd.prog 59 #[.string s] w fun r w' => r = .returned (rE 0 0 7) ∧ Below w.heap.size w w' := by
  go_enter Tryd.func59, Tryd.ntmps59
  go_wp2_with fail
  refine (HN.out _).mono ?_
  rintro r w1 ⟨rfl, hb1⟩
  have f0_0 : w1.frozen? ⟨w.heap.size, 0, none⟩ = false := carryF hb1 (v := .int .i64 0) (by first | with_reducible assumption | go_simp) (by first | with_reducible assumption | go_simp)
  have f0_1 : w1.frozen? ⟨w.heap.size, 1, none⟩ = false := carryF hb1 (v := .int .i64 0) (by first | with_reducible assumption | go_simp) (by first | with_reducible assumption | go_simp)
  have c0_0 : w1.cell? ⟨w.heap.size, 0, none⟩ = some (.int .i64 0) := carry hb1 (by first | with_reducible assumption | go_simp)
  have c0_1 : w1.cell? ⟨w.heap.size, 1, none⟩ = some (.int .i64 0) := carry hb1 (by first | with_reducible assumption | go_simp)
  have z0 : w.heap.size < w1.heap.size := by have := hb1.size; first | omega | (simp at this; omega)
  have HBB := Lib.hid ((by repeat (first | with_reducible exact Below.refl _ _ | with_reducible refine Below.setCell ?_ (by first | omega | (simp; done) | (simp; omega)) _ | with_reducible refine Below.drew ?_ | with_reducible refine belowN ?_ _ | with_reducible refine Below.alloc ?_ (by first | omega | (simp; done) | (simp; omega)) _) : Below w.heap.size w _).trans (hb1.mono (by first | omega | (simp; done) | (simp; omega))))
  clear hb1
  go_wp2_with fail
  refine bodyPost_ret (v := rE 0 0 7) (by simp [results, Tryd.results59, go_sem, c0_0, c0_1, z0]) rfl ⟨rfl, by repeat (first | with_reducible exact HBB.out | with_reducible exact Below.refl _ _ | with_reducible refine Below.drew ?_ | with_reducible refine belowN ?_ _ | with_reducible refine Below.setCell ?_ (by first | omega | (simp; done) | (simp; omega)) _ | with_reducible refine Below.alloc ?_ (by first | omega | (simp; done) | (simp; omega)) _)⟩

set_option maxRecDepth 100000 in
set_option maxHeartbeats 1600000 in
theorem ps_ok (s d : ByteArray) (t : Bool) (e a b c : Int) (w : World) (HN : Hid (∀ w : World, Calls Tryd.prog 65 #[.string s] w fun q w' => q = .returned (.tuple #[.agg #[.bool t, .string d, .int .i64 e], .bool true]) ∧ Below w.heap.size w w')) (HE : Hid (∀ W, Below w.heap.size w W → Calls Tryd.prog 66 #[.func (.func 67) #[.agg #[.bool t, .string d, .int .i64 e]] #[]] W fun q w' => q = .returned (rE a b c) ∧ Below W.heap.size W w')) :
    Calls Tryd.prog 59 #[.string s] w fun r w' => r = .returned (rE a b c) ∧ Below w.heap.size w w' := by
  go_enter Tryd.func59, Tryd.ntmps59
  go_wp2_with fail
  refine (HN.out _).mono ?_
  rintro r w1 ⟨rfl, hb1⟩
  have f0_0 : w1.frozen? ⟨w.heap.size, 0, none⟩ = false := carryF hb1 (v := .int .i64 0) (by first | with_reducible assumption | go_simp) (by first | with_reducible assumption | go_simp)
  have f0_1 : w1.frozen? ⟨w.heap.size, 1, none⟩ = false := carryF hb1 (v := .int .i64 0) (by first | with_reducible assumption | go_simp) (by first | with_reducible assumption | go_simp)
  have c0_0 : w1.cell? ⟨w.heap.size, 0, none⟩ = some (.int .i64 0) := carry hb1 (by first | with_reducible assumption | go_simp)
  have c0_1 : w1.cell? ⟨w.heap.size, 1, none⟩ = some (.int .i64 0) := carry hb1 (by first | with_reducible assumption | go_simp)
  have z0 : w.heap.size < w1.heap.size := by have := hb1.size; first | omega | (simp at this; omega)
  have HBB := Lib.hid ((by repeat (first | with_reducible exact Below.refl _ _ | with_reducible refine Below.setCell ?_ (by first | omega | (simp; done) | (simp; omega)) _ | with_reducible refine Below.drew ?_ | with_reducible refine belowN ?_ _ | with_reducible refine Below.alloc ?_ (by first | omega | (simp; done) | (simp; omega)) _) : Below w.heap.size w _).trans (hb1.mono (by first | omega | (simp; done) | (simp; omega))))
  clear hb1
  go_wp2_with fail
  refine (HE.out _ (by repeat (first | with_reducible exact HBB.out | with_reducible exact Below.refl _ _ | with_reducible refine Below.drew ?_ | with_reducible refine belowN ?_ _ | with_reducible refine Below.setCell ?_ (by first | omega | (simp; done) | (simp; omega)) _ | with_reducible refine Below.alloc ?_ (by first | omega | (simp; done) | (simp; omega)) _))).mono ?_
  rintro r w2 ⟨rfl, hb2⟩
  have f0_0 : w2.frozen? ⟨w.heap.size, 0, none⟩ = false := carryF hb2 (v := .int .i64 0) (by first | with_reducible assumption | go_simp) (by first | with_reducible assumption | go_simp)
  have f0_1 : w2.frozen? ⟨w.heap.size, 1, none⟩ = false := carryF hb2 (v := .int .i64 0) (by first | with_reducible assumption | go_simp) (by first | with_reducible assumption | go_simp)
  have c0_0 : w2.cell? ⟨w.heap.size, 0, none⟩ = some (.int .i64 0) := carry hb2 (by first | with_reducible assumption | go_simp)
  have c0_1 : w2.cell? ⟨w.heap.size, 1, none⟩ = some (.int .i64 0) := carry hb2 (by first | with_reducible assumption | go_simp)
  have z0 : w.heap.size < w2.heap.size := by have := hb2.size; first | omega | (simp at this; omega)
  have HBB := Lib.hid ((by repeat (first | with_reducible exact HBB.out | with_reducible refine Below.setCell ?_ (by first | omega | (simp; done) | (simp; omega)) _ | with_reducible refine Below.drew ?_ | with_reducible refine belowN ?_ _ | with_reducible refine Below.alloc ?_ (by first | omega | (simp; done) | (simp; omega)) _) : Below w.heap.size w _).trans (hb2.mono (by first | omega | (simp; done) | (simp; omega))))
  clear hb2
  go_wp2_with fail
  refine bodyPost_ret (v := rE a b c) (by simp [results, Tryd.results59, go_sem, c0_0, c0_1]) rfl ⟨rfl, by repeat (first | with_reducible exact HBB.out | with_reducible exact Below.refl _ _ | with_reducible refine Below.drew ?_ | with_reducible refine belowN ?_ _ | with_reducible refine Below.setCell ?_ (by first | omega | (simp; done) | (simp; omega)) _ | with_reducible refine Below.alloc ?_ (by first | omega | (simp; done) | (simp; omega)) _)⟩

/-- what Parse returns: the mantissa and the exponent ahead of rounding -/
def psM (t : Bool) (d : List UInt8) (e : Int) : Int := if d = [] then 0 else if t then -(scM (nmV d * BB ^ 3) e) else scM (nmV d * BB ^ 3) e

def psE (d : List UInt8) (e : Int) : Int := if d = [] then 0 else scE (nmV d * BB ^ 3) e

def prV (l : List UInt8) : Value := match numF l with
  | none => rE 0 0 7
  | some (t, d, e) => if d ≠ [] ∧ 53 < (d.length : Int) + e then rE 0 0 3 else oV (psM t d e) (psE d e)

theorem trimL_mem (l : List UInt8) (c b : UInt8) (h : b ∈ Lib.trimLeftB l c) : b ∈ l := by
  unfold Lib.trimLeftB at h
  exact (List.dropWhile_sublist _).subset h

theorem trimL_len (l : List UInt8) (c : UInt8) : (Lib.trimLeftB l c).length ≤ l.length := by
  unfold Lib.trimLeftB
  exact (List.dropWhile_sublist _).length_le

theorem hd_mem (l : List UInt8) : ∀ b ∈ hdD l, 48 ≤ b.toNat ∧ b.toNat ≤ 57 := by
  intro b hb
  obtain ⟨k, hk, rfl⟩ := List.getElem_of_mem hb
  exact hd_dig l k hk

/-- what numeralOf gives: at most 60 digits, and an exponent that is near -/
theorem numF_bd {l : List UInt8} {t : Bool} {d : List UInt8} {e : Int} (h : numF l = some (t, d, e)) : d.length ≤ 60 ∧ -1060 ≤ e ∧ e ≤ 1000 ∧ ∀ b ∈ d, 48 ≤ b.toNat ∧ b.toNat ≤ 57 := by
  unfold numF at h
  split at h
  · cases h
  · rename_i hc
    have hl : l.length ≤ 60 := by
      by_cases q : 60 < l.length
      · exact absurd (Or.inl q) hc
      · omega
    have h0 := trim_len l [45]
    generalize Lib.trimPrefix l [45] = r0 at *
    have h1 := hd_len r0
    split at h
    · have h2 := trim_len (tlD r0) [46]
      generalize Lib.trimPrefix (tlD r0) [46] = a at *
      have h3 := hd_len a
      split at h
      · cases h
      · split at h
        · cases h
        · rename_i x hx
          obtain ⟨b1, b2⟩ := expF_bd _ _ hx
          cases h
          have h4 := trimL_len (hdD r0 ++ hdD a) 48
          rw [List.length_append] at h4
          refine ⟨by omega, by omega, by omega, fun b hb => ?_⟩
          have hm := trimL_mem _ _ _ hb
          rcases List.mem_append.1 hm with q | q
          · exact hd_mem _ _ q
          · exact hd_mem _ _ q
    · split at h
      · cases h
      · rename_i x hx
        obtain ⟨b1, b2⟩ := expF_bd _ _ hx
        cases h
        have h4 := trimL_len (hdD r0) 48
        exact ⟨by omega, by omega, by omega, fun b hb => hd_mem _ _ (trimL_mem _ _ _ hb)⟩

theorem enters_num (caps : Array Value) (W : World) : Sem.run Tryd.prog (callFunc 67 caps) W = .ok (.enter 67 caps) W := Go.Proofs.enters_of (P := Tryd.prog) Tryd.func67 (by kernel_rfl) rfl caps W

abbrev HNum (l : List UInt8) (t : Bool) (d : List UInt8) (e : Int) : Prop := Hid (∀ w : World, Calls Tryd.prog 65 #[.string (bs l)] w fun q w' => q = .returned (.tuple #[.agg #[.bool t, .string (bs d), .int .i64 e], .bool true]) ∧ Below w.heap.size w w')

theorem parse_zero (l : List UInt8) (t : Bool) (e : Int) (w : World) (HN : HNum l t [] e) :
    Calls Tryd.prog 59 #[.string (bs l)] w fun q w' => q = .returned (oV 0 0) ∧ Below w.heap.size w w' :=
  ps_ok (bs l) (bs []) t e _ _ _ w HN (Lib.hid fun W hW => evm_any _ _ 0 0 W (Lib.hid fun W => enters_num _ W) (Lib.hid fun W2 _ => nm_zero t (bs []) e W2 (by rw [ne_iff]; rfl)) (by decide) (by decide) (by decide) (by decide))

theorem parse_over (l d : List UInt8) (t : Bool) (e : Int) (w : World) (HN : HNum l t d e) (hd : d ≠ []) (hl : d.length ≤ 60) (he : e ≤ 1000) (ho : 53 < (d.length : Int) + e) :
    Calls Tryd.prog 59 #[.string (bs l)] w fun q w' => q = .returned (rE 0 0 3) ∧ Below w.heap.size w w' :=
  ps_ok (bs l) (bs d) t e _ _ _ w HN (Lib.hid fun W hW => evm_panic _ _ _ _ W (Lib.hid fun W => enters_num _ W) (Lib.hid fun W2 _ => nm_over t (bs d) e (d.length : Int) W2 (by rw [ne_iff]; simpa using hd) (by rw [bs_size]) (by omega) ho (by omega)))

theorem bs_toList (l : List UInt8) : (bs l).data.toList = l := by simp

theorem parse_f (l d : List UInt8) (e a b : Int) (w : World) (HN : HNum l false d e) (hT : P10 w) (HDiv : Hid (∀ s, s ≤ 19 → DivOk (10 ^ s))) (hd : d ≠ []) (hl : d.length ≤ 60) (h3 : -1060 ≤ e) (ho : (d.length : Int) + e ≤ 53) (hg : ∀ b ∈ d, 48 ≤ b.toNat ∧ b.toNat ≤ 57)
    (ha : scM (nmV d * BB ^ 3) e = a) (hb : scE (nmV d * BB ^ 3) e = b) :
    Calls Tryd.prog 59 #[.string (bs l)] w fun q w' => q = .returned (oV a b) ∧ Below w.heap.size w w' := by
  have hb2 := nm_b (bs d) e (d.length : Int) (nmV d) (by rw [bs_size]) (by omega) (by omega) (by rw [bs_toList]) (by rw [bs_toList]; exact hg)
  obtain ⟨s1, s2, s3, s4⟩ := sc_bd (nmV d * BB ^ 3) e hb2.1 hb2.2
  rw [ha] at s1 s2
  rw [hb] at s3 s4
  refine ps_ok (bs l) (bs d) false e _ _ _ w HN (Lib.hid fun W hW => evm_any _ _ a b W (Lib.hid fun W => enters_num _ W) (Lib.hid fun W2 hW2 => ?_) (by omega) (by omega) (by omega) (by omega))
  have := nm_f (bs d) e (d.length : Int) (nmV d) W2 ((hT.kept hW (Nat.le_refl _)).kept hW2 (Nat.le_refl _)) HDiv (by rw [ne_iff]; simpa using hd) (by rw [bs_size]) (by omega) (by omega) (by omega) (by rw [bs_toList]) (by rw [bs_toList]; exact hg)
  rw [ha, hb] at this
  exact this

theorem parse_t (l d : List UInt8) (e a b : Int) (w : World) (HN : HNum l true d e) (hT : P10 w) (HDiv : Hid (∀ s, s ≤ 19 → DivOk (10 ^ s))) (hd : d ≠ []) (hl : d.length ≤ 60) (h3 : -1060 ≤ e) (ho : (d.length : Int) + e ≤ 53) (hg : ∀ b ∈ d, 48 ≤ b.toNat ∧ b.toNat ≤ 57)
    (ha : scM (nmV d * BB ^ 3) e = a) (hb : scE (nmV d * BB ^ 3) e = b) :
    Calls Tryd.prog 59 #[.string (bs l)] w fun q w' => q = .returned (oV (-a) b) ∧ Below w.heap.size w w' := by
  have hb2 := nm_b (bs d) e (d.length : Int) (nmV d) (by rw [bs_size]) (by omega) (by omega) (by rw [bs_toList]) (by rw [bs_toList]; exact hg)
  obtain ⟨s1, s2, s3, s4⟩ := sc_bd (nmV d * BB ^ 3) e hb2.1 hb2.2
  rw [ha] at s1 s2
  rw [hb] at s3 s4
  refine ps_ok (bs l) (bs d) true e _ _ _ w HN (Lib.hid fun W hW => evm_any _ _ (-a) b W (Lib.hid fun W => enters_num _ W) (Lib.hid fun W2 hW2 => ?_) (by omega) (by omega) (by omega) (by omega))
  have := nm_t (bs d) e (d.length : Int) (nmV d) W2 ((hT.kept hW (Nat.le_refl _)).kept hW2 (Nat.le_refl _)) HDiv (by rw [ne_iff]; simpa using hd) (by rw [bs_size]) (by omega) (by omega) (by omega) (by rw [bs_toList]) (by rw [bs_toList]; exact hg)
  rw [ha, hb] at this
  exact this

theorem psM_f (d : List UInt8) (e : Int) (hd : d ≠ []) : psM false d e = scM (nmV d * BB ^ 3) e := by
  unfold psM
  rw [if_neg hd, if_neg (by decide)]

theorem psM_t (d : List UInt8) (e : Int) (hd : d ≠ []) : psM true d e = -(scM (nmV d * BB ^ 3) e) := by
  unfold psM
  rw [if_neg hd, if_pos rfl]

theorem psE_n (d : List UInt8) (e : Int) (hd : d ≠ []) : psE d e = scE (nmV d * BB ^ 3) e := by
  unfold psE
  rw [if_neg hd]

theorem psM_0 (t : Bool) (e : Int) : psM t [] e = 0 := by
  unfold psM
  rw [if_pos rfl]

theorem psE_0 (e : Int) : psE [] e = 0 := by
  unfold psE
  rw [if_pos rfl]

theorem parse_any (l : List UInt8) (w : World) (hl : l.length ≤ 9223372036854775807) (hT : P10 w) (HDiv : Hid (∀ s, s ≤ 19 → DivOk (10 ^ s))) :
    Calls Tryd.prog 59 #[.string (bs l)] w fun q w' => q = .returned (prV l) ∧ Below w.heap.size w w' := by
  have HN := fun w : World => nof_any l w hl
  unfold prV
  unfold numV at HN
  cases hf : numF l with
  | none =>
    rw [hf] at HN
    exact ps_bad (bs l) w (Lib.hid HN)
  | some x =>
    obtain ⟨t, d, e⟩ := x
    rw [hf] at HN
    obtain ⟨b1, b2, b3, b4⟩ := numF_bd hf
    dsimp only at HN ⊢
    by_cases hd : d = []
    · subst hd
      rw [if_neg (fun q => q.1 rfl), psM_0, psE_0]
      exact parse_zero l t e w (Lib.hid HN)
    · by_cases ho : 53 < (d.length : Int) + e
      · rw [if_pos ⟨hd, ho⟩]
        exact parse_over l d t e w (Lib.hid HN) hd b1 b3 ho
      · rw [if_neg (fun q => ho q.2), psE_n d e hd]
        cases t
        · rw [psM_f d e hd]
          exact parse_f l d e _ _ w (Lib.hid HN) hT HDiv hd b1 b2 (by omega) b4 rfl rfl
        · rw [psM_t d e hd]
          exact parse_t l d e _ _ w (Lib.hid HN) hT HDiv hd b1 b2 (by omega) b4 rfl rfl

end Go.Proofs.YtnmifeiokhpcfaaDoor.re
