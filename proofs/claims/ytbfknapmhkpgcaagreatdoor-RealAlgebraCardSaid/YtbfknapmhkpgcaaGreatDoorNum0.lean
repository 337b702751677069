/-
  PACKAGE real, numeric strings: the digits at the front.
-/
import Derived.Test.YtbfknapmhkpgcaaGreatDoorFix5
import Derived.Test.YtbfknapmhkpgcaaGreatDoorShelf
import Derived.Shelf.Strings.SlTrimAscii

namespace Go.Proofs.YtbfknapmhkpgcaaGreatDoor
open Go.RowKit
set_option linter.unusedVariables false

abbrev bs (l : List UInt8) : ByteArray := ⟨l.toArray⟩

def digL : List UInt8 := [48, 49, 50, 51, 52, 53, 54, 55, 56, 57]

theorem dig128 : ∀ b ∈ digL, b.toNat < 128 := by decide

def hdD (l : List UInt8) : List UInt8 := l.takeWhile (digL.contains ·)

def tlD (l : List UInt8) : List UInt8 := l.dropWhile (digL.contains ·)

theorem hd_tl (l : List UInt8) : hdD l ++ tlD l = l := List.takeWhile_append_dropWhile

theorem hd_len (l : List UInt8) : (hdD l).length + (tlD l).length = l.length := by
  have := congrArg List.length (hd_tl l)
  simpa using this

theorem bs_size (l : List UInt8) : (bs l).size = l.length := Lib.size_mk l

theorem bs_take (l : List UInt8) (n : Nat) : (bs l).extract 0 n = bs (l.take n) := by
  rw [Lib.extract_mk]
  simp

theorem hd_take (l : List UInt8) : l.take (hdD l).length = hdD l := by
  have h := hd_tl l
  generalize hdD l = a at *
  generalize tlD l = b at *
  subst h
  simp

set_option maxRecDepth 100000 in
set_option maxHeartbeats 1600000 in
theorem cut_d (l : List UInt8) (w : World) (hl : l.length ≤ 9223372036854775807) :
    Calls Tryz.prog 87 #[.string (bs l)] w fun r w' => r = .returned (.tuple #[.string (bs (hdD l)), .string (bs (tlD l))]) ∧ Below w.heap.size w w' := by
  have HTL : Hid (∀ w, Calls Tryz.prog 89 #[.string (bs l), .string ⟨#[48, 49, 50, 51, 52, 53, 54, 55, 56, 57]⟩] w fun e w' => e = .returned (.string (bs (tlD l))) ∧ Below w.heap.size w w') := Lib.hid (fun w => Any.strings_TrimLeft_laid Tryz.lays161 (by kernel_rfl) (bs l) _ w (by decide) (fun j b h => dig128 b (List.mem_of_getElem? h)))
  have hlen := hd_len l
  have hsz := bs_size l
  have hsz2 := bs_size (tlD l)
  have HEX := Lib.hid (show (bs l).extract 0 (hdD l).length = bs (hdD l) from by rw [bs_take, hd_take])
  generalize bs (tlD l) = t at *
  generalize bs (hdD l) = h at *
  generalize hbl : bs l = s at *
  generalize hn : (hdD l).length = n at *
  clear hbl
  have hln : (l.length : Int) - ((tlD l).length : Int) = (n : Int) := by omega
  go_enter Tryz.func87, Tryz.ntmps87
  go_wp2_with fail
  refine (HTL.out _).mono ?_
  rintro r w1 ⟨rfl, hb1⟩
  go_wp2_with fail
  go_ret2
  exact ⟨by rw [HEX.out]; rfl, hb1⟩

/-- a digit after another one, held at 1000 -/
def exS (e : Int) (c : UInt8) : Int := min (10 * e + (c.toNat - 48 : Nat)) 1000

def exV (l : List UInt8) : Int := l.foldl exS 0

theorem exS_bd (e : Int) (c : UInt8) (h1 : 0 ≤ e) (h2 : e ≤ 1000) : 0 ≤ exS e c ∧ exS e c ≤ 1000 := by
  unfold exS
  omega

theorem exV_bd : ∀ (l : List UInt8) (e : Int), 0 ≤ e → e ≤ 1000 → 0 ≤ l.foldl exS e ∧ l.foldl exS e ≤ 1000
  | [], e, h1, h2 => ⟨h1, h2⟩
  | c :: l, e, h1, h2 => exV_bd l _ (exS_bd e c h1 h2).1 (exS_bd e c h1 h2).2

theorem exV_take (l : List UInt8) (k : Nat) (h : k < l.length) : (l.take (k + 1)).foldl exS 0 = exS ((l.take k).foldl exS 0) l[k] := by
  rw [List.take_succ_eq_append_getElem h, List.foldl_append]
  rfl

def exB (d : ByteArray) : Int := exV d.data.toList

theorem exB_step (d : ByteArray) (k : Nat) (h : k < d.size) : (d.data.toList.take (k + 1)).foldl exS 0 = exS ((d.data.toList.take k).foldl exS 0) d[k] := exV_take d.data.toList k h

theorem hd_dig (l : List UInt8) : ∀ (k : Nat) (h : k < (hdD l).length), 48 ≤ (hdD l)[k].toNat ∧ (hdD l)[k].toNat ≤ 57 := by
  intro k h
  have h1 : (hdD l)[k] ∈ hdD l := List.getElem_mem h
  have h2 : ∀ x ∈ hdD l, digL.contains x = true := fun x hx => by
    have := List.all_takeWhile (p := (digL.contains ·)) (l := l)
    exact List.all_eq_true.1 this x hx
  have h3 := h2 _ h1
  have h4 : ∀ b ∈ digL, 48 ≤ b.toNat ∧ b.toNat ≤ 57 := by decide
  exact h4 _ (by simpa using h3)

def expR (l : List UInt8) : List UInt8 := if Lib.hasPrefix (Lib.trimPrefix l [101]) [45] || Lib.hasPrefix (Lib.trimPrefix l [101]) [43] then (Lib.trimPrefix l [101]).drop 1 else Lib.trimPrefix l [101]

/-- the exponent that the end of a numeric string gives -/
def expF (l : List UInt8) : Option Int :=
  if l = [] then some 0
  else if Lib.hasPrefix l [101] = false ∨ hdD (expR l) = [] ∨ tlD (expR l) ≠ [] then none
  else some (if Lib.hasPrefix (Lib.trimPrefix l [101]) [45] then -(exV (hdD (expR l))) else exV (hdD (expR l)))

set_option maxRecDepth 100000 in
set_option maxHeartbeats 1600000 in
theorem ex_nil (w : World) :
    Calls Tryz.prog 88 #[.string (bs [])] w fun r w' => r = .returned (.tuple #[.int .i64 0, .bool true]) ∧ Below w.heap.size w w' := by
  go_enter Tryz.func88, Tryz.ntmps88
  go_wp2_with fail
  go_ret2
  exact ⟨rfl, Below.refl _ _⟩

set_option maxRecDepth 100000 in
set_option maxHeartbeats 1600000 in
theorem ex_nof_m (s r r2 t : ByteArray) (d : ByteArray) (w : World) (hl : s.size ≤ 9223372036854775807) (hne : s.toList.isEmpty = false) (HCP : Hid (∀ w, Calls Tryz.prog 86 #[.string s, .string ⟨#[101]⟩] w fun e w' => e = .returned (.tuple #[.string r, .bool false]) ∧ w' = w)) (HN : Hid (∀ w, Calls Tryz.prog 101 #[.string r, .string ⟨#[45]⟩] w fun e w' => e = .returned (.bool true) ∧ w' = w)) (hrs : 1 ≤ r.size) (hri : (1 : Int) ≤ (r.size : Int)) (HX : Hid (r.extract 1 r.size = r2)) (HC : Hid (∀ w : World, Calls Tryz.prog 87 #[.string r2] w fun e w' => e = .returned (.tuple #[.string d, .string t]) ∧ Below w.heap.size w w')) :
    Calls Tryz.prog 88 #[.string s] w fun q w' => q = .returned (.tuple #[.int .i64 0, .bool false]) ∧ Below w.heap.size w w' := by
  go_enter Tryz.func88, Tryz.ntmps88
  go_wp2_with fail
  refine (HCP.out _).mono ?_
  rintro q w1 ⟨rfl, rfl⟩
  go_wp2_with fail
  refine (HN.out _).mono ?_
  rintro q w1 ⟨rfl, rfl⟩
  go_wp2_with fail
  rw [HX.out]
  refine (HC.out _).mono ?_
  rintro q w1 ⟨rfl, hb1⟩
  have HBB := Lib.hid hb1
  clear hb1
  go_wp2_with fail
  go_ret2
  exact ⟨rfl, HBB.out⟩

set_option maxRecDepth 100000 in
set_option maxHeartbeats 1600000 in
theorem ex_dem_m (s r r2 t : ByteArray) (d : ByteArray) (w : World) (hl : s.size ≤ 9223372036854775807) (hne : s.toList.isEmpty = false) (HCP : Hid (∀ w, Calls Tryz.prog 86 #[.string s, .string ⟨#[101]⟩] w fun e w' => e = .returned (.tuple #[.string r, .bool true]) ∧ w' = w)) (HN : Hid (∀ w, Calls Tryz.prog 101 #[.string r, .string ⟨#[45]⟩] w fun e w' => e = .returned (.bool true) ∧ w' = w)) (hrs : 1 ≤ r.size) (hri : (1 : Int) ≤ (r.size : Int)) (HX : Hid (r.extract 1 r.size = r2)) (HC : Hid (∀ w : World, Calls Tryz.prog 87 #[.string r2] w fun e w' => e = .returned (.tuple #[.string d, .string t]) ∧ Below w.heap.size w w')) (hd : d.toList.isEmpty = true) :
    Calls Tryz.prog 88 #[.string s] w fun q w' => q = .returned (.tuple #[.int .i64 0, .bool false]) ∧ Below w.heap.size w w' := by
  go_enter Tryz.func88, Tryz.ntmps88
  go_wp2_with fail
  refine (HCP.out _).mono ?_
  rintro q w1 ⟨rfl, rfl⟩
  go_wp2_with fail
  refine (HN.out _).mono ?_
  rintro q w1 ⟨rfl, rfl⟩
  go_wp2_with fail
  rw [HX.out]
  refine (HC.out _).mono ?_
  rintro q w1 ⟨rfl, hb1⟩
  have HBB := Lib.hid hb1
  clear hb1
  go_wp2_with fail
  go_ret2
  exact ⟨rfl, HBB.out⟩

set_option maxRecDepth 100000 in
set_option maxHeartbeats 1600000 in
theorem ex_tne_m (s r r2 t : ByteArray) (d : ByteArray) (w : World) (hl : s.size ≤ 9223372036854775807) (hne : s.toList.isEmpty = false) (HCP : Hid (∀ w, Calls Tryz.prog 86 #[.string s, .string ⟨#[101]⟩] w fun e w' => e = .returned (.tuple #[.string r, .bool true]) ∧ w' = w)) (HN : Hid (∀ w, Calls Tryz.prog 101 #[.string r, .string ⟨#[45]⟩] w fun e w' => e = .returned (.bool true) ∧ w' = w)) (hrs : 1 ≤ r.size) (hri : (1 : Int) ≤ (r.size : Int)) (HX : Hid (r.extract 1 r.size = r2)) (HC : Hid (∀ w : World, Calls Tryz.prog 87 #[.string r2] w fun e w' => e = .returned (.tuple #[.string d, .string t]) ∧ Below w.heap.size w w')) (hd : d.toList.isEmpty = false) (ht : t.toList.isEmpty = false) :
    Calls Tryz.prog 88 #[.string s] w fun q w' => q = .returned (.tuple #[.int .i64 0, .bool false]) ∧ Below w.heap.size w w' := by
  go_enter Tryz.func88, Tryz.ntmps88
  go_wp2_with fail
  refine (HCP.out _).mono ?_
  rintro q w1 ⟨rfl, rfl⟩
  go_wp2_with fail
  refine (HN.out _).mono ?_
  rintro q w1 ⟨rfl, rfl⟩
  go_wp2_with fail
  rw [HX.out]
  refine (HC.out _).mono ?_
  rintro q w1 ⟨rfl, hb1⟩
  have HBB := Lib.hid hb1
  clear hb1
  go_wp2_with fail
  go_ret2
  exact ⟨rfl, HBB.out⟩

set_option maxRecDepth 100000 in
set_option maxHeartbeats 1600000 in
theorem ex_ok_m (s r r2 t : ByteArray) (d : ByteArray) (w : World) (hl : s.size ≤ 9223372036854775807) (hne : s.toList.isEmpty = false) (HCP : Hid (∀ w, Calls Tryz.prog 86 #[.string s, .string ⟨#[101]⟩] w fun e w' => e = .returned (.tuple #[.string r, .bool true]) ∧ w' = w)) (HN : Hid (∀ w, Calls Tryz.prog 101 #[.string r, .string ⟨#[45]⟩] w fun e w' => e = .returned (.bool true) ∧ w' = w)) (hrs : 1 ≤ r.size) (hri : (1 : Int) ≤ (r.size : Int)) (HX : Hid (r.extract 1 r.size = r2)) (HC : Hid (∀ w : World, Calls Tryz.prog 87 #[.string r2] w fun e w' => e = .returned (.tuple #[.string d, .string t]) ∧ Below w.heap.size w w')) (hd : d.toList.isEmpty = false) (HDG : Hid (∀ (k : Nat) (h : k < d.size), 48 ≤ d[k].toNat ∧ d[k].toNat ≤ 57)) (hdl : d.size ≤ 9223372036854775807) (ht : t.toList.isEmpty = true) :
    Calls Tryz.prog 88 #[.string s] w fun q w' => q = .returned (.tuple #[.int .i64 (-(exB d)), .bool true]) ∧ Below w.heap.size w w' := by
  go_enter Tryz.func88, Tryz.ntmps88
  go_wp2_with fail
  refine (HCP.out _).mono ?_
  rintro q w1 ⟨rfl, rfl⟩
  go_wp2_with fail
  refine (HN.out _).mono ?_
  rintro q w1 ⟨rfl, rfl⟩
  go_wp2_with fail
  rw [HX.out]
  refine (HC.out _).mono ?_
  rintro q w1 ⟨rfl, hb1⟩
  have HBB := Lib.hid hb1
  clear hb1
  go_wp2_with fail
  go_loopw [2, 42] (fun e i wr => ∃ (k : Nat) (x : Int), k ≤ d.size ∧ i = .int .i64 k ∧ e = .int .i64 x ∧ x = (d.data.toList.take k).foldl exS 0 ∧ 0 ≤ x ∧ x ≤ 1000 ∧ wr = w1) (fun _ i _ => d.size - (intOf i).toNat)
  case atStart => exact ⟨0, 0, Nat.zero_le _, rfl, rfl, rfl, by decide, by decide, rfl⟩
  case round =>
    obtain ⟨k, x, hk, rfl, rfl, hx, hx0, hx1, rfl⟩ := hrel
    have HV := Lib.hid hx
    clear hx
    by_cases hlt : k < d.size
    · obtain ⟨hb1, hb2⟩ := HDG.out k hlt
      have HS := Lib.hid (exB_step d k hlt)
      rw [← HV.out] at HS
      have hsb := exS_bd x d[k] hx0 hx1
      obtain ⟨y, hy⟩ : ∃ y, y = exS x d[k] := ⟨_, rfl⟩
      rw [← hy] at HS hsb
      have hmn : ∀ w, Sem.run Tryz.prog (Builtin.min_ #[3, 3] 3 #[.int .i64 (10 * x + ((d[k].toNat : Int) - 48)), .int .i64 1000]) w = .ok (.int .i64 y) w := fun w => by
        rw [hy, show exS x d[k] = (if (1000 : Int) < 10 * x + ((d[k].toNat : Int) - 48) then 1000 else 10 * x + ((d[k].toNat : Int) - 48)) from by unfold exS; split <;> omega]
        kernel_rfl
      have HY := Lib.hid hy
      clear hy
      have hi1 : (48 : Int) ≤ (d[k].toNat : Int) := by omega
      have hi2 : (d[k].toNat : Int) ≤ 57 := by omega
      have hki : (k : Int) < (d.size : Int) := by omega
      go_wp2_with fail
      exact ⟨⟨k + 1, y, by omega, by simp, rfl, HS.out.symm, hsb.1, hsb.2, by first | trivial | rfl⟩, by simp [intOf]; omega⟩
    · obtain rfl : k = d.size := by omega
      have HE := Lib.hid (show exB d = x from by rw [HV.out]; unfold exB exV; rw [List.take_of_length_le (by rw [Lib.size_eq]; exact Nat.le_refl _)])
      go_wp2_with fail
      go_ret2
      exact ⟨by rw [HE.out]; rfl, HBB.out⟩

set_option maxRecDepth 100000 in
set_option maxHeartbeats 1600000 in
theorem ex_nof_p (s r r2 t : ByteArray) (d : ByteArray) (w : World) (hl : s.size ≤ 9223372036854775807) (hne : s.toList.isEmpty = false) (HCP : Hid (∀ w, Calls Tryz.prog 86 #[.string s, .string ⟨#[101]⟩] w fun e w' => e = .returned (.tuple #[.string r, .bool false]) ∧ w' = w)) (HN : Hid (∀ w, Calls Tryz.prog 101 #[.string r, .string ⟨#[45]⟩] w fun e w' => e = .returned (.bool false) ∧ w' = w)) (HP : Hid (∀ w, Calls Tryz.prog 101 #[.string r, .string ⟨#[43]⟩] w fun e w' => e = .returned (.bool true) ∧ w' = w)) (hrs : 1 ≤ r.size) (hri : (1 : Int) ≤ (r.size : Int)) (HX : Hid (r.extract 1 r.size = r2)) (HC : Hid (∀ w : World, Calls Tryz.prog 87 #[.string r2] w fun e w' => e = .returned (.tuple #[.string d, .string t]) ∧ Below w.heap.size w w')) :
    Calls Tryz.prog 88 #[.string s] w fun q w' => q = .returned (.tuple #[.int .i64 0, .bool false]) ∧ Below w.heap.size w w' := by
  go_enter Tryz.func88, Tryz.ntmps88
  go_wp2_with fail
  refine (HCP.out _).mono ?_
  rintro q w1 ⟨rfl, rfl⟩
  go_wp2_with fail
  refine (HN.out _).mono ?_
  rintro q w1 ⟨rfl, rfl⟩
  go_wp2_with fail
  refine (HP.out _).mono ?_
  rintro q w1 ⟨rfl, rfl⟩
  go_wp2_with fail
  rw [HX.out]
  refine (HC.out _).mono ?_
  rintro q w1 ⟨rfl, hb1⟩
  have HBB := Lib.hid hb1
  clear hb1
  go_wp2_with fail
  go_ret2
  exact ⟨rfl, HBB.out⟩

set_option maxRecDepth 100000 in
set_option maxHeartbeats 1600000 in
theorem ex_dem_p (s r r2 t : ByteArray) (d : ByteArray) (w : World) (hl : s.size ≤ 9223372036854775807) (hne : s.toList.isEmpty = false) (HCP : Hid (∀ w, Calls Tryz.prog 86 #[.string s, .string ⟨#[101]⟩] w fun e w' => e = .returned (.tuple #[.string r, .bool true]) ∧ w' = w)) (HN : Hid (∀ w, Calls Tryz.prog 101 #[.string r, .string ⟨#[45]⟩] w fun e w' => e = .returned (.bool false) ∧ w' = w)) (HP : Hid (∀ w, Calls Tryz.prog 101 #[.string r, .string ⟨#[43]⟩] w fun e w' => e = .returned (.bool true) ∧ w' = w)) (hrs : 1 ≤ r.size) (hri : (1 : Int) ≤ (r.size : Int)) (HX : Hid (r.extract 1 r.size = r2)) (HC : Hid (∀ w : World, Calls Tryz.prog 87 #[.string r2] w fun e w' => e = .returned (.tuple #[.string d, .string t]) ∧ Below w.heap.size w w')) (hd : d.toList.isEmpty = true) :
    Calls Tryz.prog 88 #[.string s] w fun q w' => q = .returned (.tuple #[.int .i64 0, .bool false]) ∧ Below w.heap.size w w' := by
  go_enter Tryz.func88, Tryz.ntmps88
  go_wp2_with fail
  refine (HCP.out _).mono ?_
  rintro q w1 ⟨rfl, rfl⟩
  go_wp2_with fail
  refine (HN.out _).mono ?_
  rintro q w1 ⟨rfl, rfl⟩
  go_wp2_with fail
  refine (HP.out _).mono ?_
  rintro q w1 ⟨rfl, rfl⟩
  go_wp2_with fail
  rw [HX.out]
  refine (HC.out _).mono ?_
  rintro q w1 ⟨rfl, hb1⟩
  have HBB := Lib.hid hb1
  clear hb1
  go_wp2_with fail
  go_ret2
  exact ⟨rfl, HBB.out⟩

set_option maxRecDepth 100000 in
set_option maxHeartbeats 1600000 in
theorem ex_tne_p (s r r2 t : ByteArray) (d : ByteArray) (w : World) (hl : s.size ≤ 9223372036854775807) (hne : s.toList.isEmpty = false) (HCP : Hid (∀ w, Calls Tryz.prog 86 #[.string s, .string ⟨#[101]⟩] w fun e w' => e = .returned (.tuple #[.string r, .bool true]) ∧ w' = w)) (HN : Hid (∀ w, Calls Tryz.prog 101 #[.string r, .string ⟨#[45]⟩] w fun e w' => e = .returned (.bool false) ∧ w' = w)) (HP : Hid (∀ w, Calls Tryz.prog 101 #[.string r, .string ⟨#[43]⟩] w fun e w' => e = .returned (.bool true) ∧ w' = w)) (hrs : 1 ≤ r.size) (hri : (1 : Int) ≤ (r.size : Int)) (HX : Hid (r.extract 1 r.size = r2)) (HC : Hid (∀ w : World, Calls Tryz.prog 87 #[.string r2] w fun e w' => e = .returned (.tuple #[.string d, .string t]) ∧ Below w.heap.size w w')) (hd : d.toList.isEmpty = false) (ht : t.toList.isEmpty = false) :
    Calls Tryz.prog 88 #[.string s] w fun q w' => q = .returned (.tuple #[.int .i64 0, .bool false]) ∧ Below w.heap.size w w' := by
  go_enter Tryz.func88, Tryz.ntmps88
  go_wp2_with fail
  refine (HCP.out _).mono ?_
  rintro q w1 ⟨rfl, rfl⟩
  go_wp2_with fail
  refine (HN.out _).mono ?_
  rintro q w1 ⟨rfl, rfl⟩
  go_wp2_with fail
  refine (HP.out _).mono ?_
  rintro q w1 ⟨rfl, rfl⟩
  go_wp2_with fail
  rw [HX.out]
  refine (HC.out _).mono ?_
  rintro q w1 ⟨rfl, hb1⟩
  have HBB := Lib.hid hb1
  clear hb1
  go_wp2_with fail
  go_ret2
  exact ⟨rfl, HBB.out⟩

set_option maxRecDepth 100000 in
set_option maxHeartbeats 1600000 in
theorem ex_ok_p (s r r2 t : ByteArray) (d : ByteArray) (w : World) (hl : s.size ≤ 9223372036854775807) (hne : s.toList.isEmpty = false) (HCP : Hid (∀ w, Calls Tryz.prog 86 #[.string s, .string ⟨#[101]⟩] w fun e w' => e = .returned (.tuple #[.string r, .bool true]) ∧ w' = w)) (HN : Hid (∀ w, Calls Tryz.prog 101 #[.string r, .string ⟨#[45]⟩] w fun e w' => e = .returned (.bool false) ∧ w' = w)) (HP : Hid (∀ w, Calls Tryz.prog 101 #[.string r, .string ⟨#[43]⟩] w fun e w' => e = .returned (.bool true) ∧ w' = w)) (hrs : 1 ≤ r.size) (hri : (1 : Int) ≤ (r.size : Int)) (HX : Hid (r.extract 1 r.size = r2)) (HC : Hid (∀ w : World, Calls Tryz.prog 87 #[.string r2] w fun e w' => e = .returned (.tuple #[.string d, .string t]) ∧ Below w.heap.size w w')) (hd : d.toList.isEmpty = false) (HDG : Hid (∀ (k : Nat) (h : k < d.size), 48 ≤ d[k].toNat ∧ d[k].toNat ≤ 57)) (hdl : d.size ≤ 9223372036854775807) (ht : t.toList.isEmpty = true) :
    Calls Tryz.prog 88 #[.string s] w fun q w' => q = .returned (.tuple #[.int .i64 ((exB d)), .bool true]) ∧ Below w.heap.size w w' := by
  go_enter Tryz.func88, Tryz.ntmps88
  go_wp2_with fail
  refine (HCP.out _).mono ?_
  rintro q w1 ⟨rfl, rfl⟩
  go_wp2_with fail
  refine (HN.out _).mono ?_
  rintro q w1 ⟨rfl, rfl⟩
  go_wp2_with fail
  refine (HP.out _).mono ?_
  rintro q w1 ⟨rfl, rfl⟩
  go_wp2_with fail
  rw [HX.out]
  refine (HC.out _).mono ?_
  rintro q w1 ⟨rfl, hb1⟩
  have HBB := Lib.hid hb1
  clear hb1
  go_wp2_with fail
  go_loopw [2, 42] (fun e i wr => ∃ (k : Nat) (x : Int), k ≤ d.size ∧ i = .int .i64 k ∧ e = .int .i64 x ∧ x = (d.data.toList.take k).foldl exS 0 ∧ 0 ≤ x ∧ x ≤ 1000 ∧ wr = w1) (fun _ i _ => d.size - (intOf i).toNat)
  case atStart => exact ⟨0, 0, Nat.zero_le _, rfl, rfl, rfl, by decide, by decide, rfl⟩
  case round =>
    obtain ⟨k, x, hk, rfl, rfl, hx, hx0, hx1, rfl⟩ := hrel
    have HV := Lib.hid hx
    clear hx
    by_cases hlt : k < d.size
    · obtain ⟨hb1, hb2⟩ := HDG.out k hlt
      have HS := Lib.hid (exB_step d k hlt)
      rw [← HV.out] at HS
      have hsb := exS_bd x d[k] hx0 hx1
      obtain ⟨y, hy⟩ : ∃ y, y = exS x d[k] := ⟨_, rfl⟩
      rw [← hy] at HS hsb
      have hmn : ∀ w, Sem.run Tryz.prog (Builtin.min_ #[3, 3] 3 #[.int .i64 (10 * x + ((d[k].toNat : Int) - 48)), .int .i64 1000]) w = .ok (.int .i64 y) w := fun w => by
        rw [hy, show exS x d[k] = (if (1000 : Int) < 10 * x + ((d[k].toNat : Int) - 48) then 1000 else 10 * x + ((d[k].toNat : Int) - 48)) from by unfold exS; split <;> omega]
        kernel_rfl
      have HY := Lib.hid hy
      clear hy
      have hi1 : (48 : Int) ≤ (d[k].toNat : Int) := by omega
      have hi2 : (d[k].toNat : Int) ≤ 57 := by omega
      have hki : (k : Int) < (d.size : Int) := by omega
      go_wp2_with fail
      exact ⟨⟨k + 1, y, by omega, by simp, rfl, HS.out.symm, hsb.1, hsb.2, by first | trivial | rfl⟩, by simp [intOf]; omega⟩
    · obtain rfl : k = d.size := by omega
      have HE := Lib.hid (show exB d = x from by rw [HV.out]; unfold exB exV; rw [List.take_of_length_le (by rw [Lib.size_eq]; exact Nat.le_refl _)])
      go_wp2_with fail
      go_ret2
      exact ⟨by rw [HE.out]; rfl, HBB.out⟩

set_option maxRecDepth 100000 in
set_option maxHeartbeats 1600000 in
theorem ex_nof_z (s r r2 t : ByteArray) (d : ByteArray) (w : World) (hl : s.size ≤ 9223372036854775807) (hne : s.toList.isEmpty = false) (HCP : Hid (∀ w, Calls Tryz.prog 86 #[.string s, .string ⟨#[101]⟩] w fun e w' => e = .returned (.tuple #[.string r, .bool false]) ∧ w' = w)) (HN : Hid (∀ w, Calls Tryz.prog 101 #[.string r, .string ⟨#[45]⟩] w fun e w' => e = .returned (.bool false) ∧ w' = w)) (HP : Hid (∀ w, Calls Tryz.prog 101 #[.string r, .string ⟨#[43]⟩] w fun e w' => e = .returned (.bool false) ∧ w' = w)) (HC : Hid (∀ w : World, Calls Tryz.prog 87 #[.string r] w fun e w' => e = .returned (.tuple #[.string d, .string t]) ∧ Below w.heap.size w w')) :
    Calls Tryz.prog 88 #[.string s] w fun q w' => q = .returned (.tuple #[.int .i64 0, .bool false]) ∧ Below w.heap.size w w' := by
  go_enter Tryz.func88, Tryz.ntmps88
  go_wp2_with fail
  refine (HCP.out _).mono ?_
  rintro q w1 ⟨rfl, rfl⟩
  go_wp2_with fail
  refine (HN.out _).mono ?_
  rintro q w1 ⟨rfl, rfl⟩
  go_wp2_with fail
  refine (HP.out _).mono ?_
  rintro q w1 ⟨rfl, rfl⟩
  go_wp2_with fail
  refine (HC.out _).mono ?_
  rintro q w1 ⟨rfl, hb1⟩
  have HBB := Lib.hid hb1
  clear hb1
  go_wp2_with fail
  go_ret2
  exact ⟨rfl, HBB.out⟩

set_option maxRecDepth 100000 in
set_option maxHeartbeats 1600000 in
theorem ex_dem_z (s r r2 t : ByteArray) (d : ByteArray) (w : World) (hl : s.size ≤ 9223372036854775807) (hne : s.toList.isEmpty = false) (HCP : Hid (∀ w, Calls Tryz.prog 86 #[.string s, .string ⟨#[101]⟩] w fun e w' => e = .returned (.tuple #[.string r, .bool true]) ∧ w' = w)) (HN : Hid (∀ w, Calls Tryz.prog 101 #[.string r, .string ⟨#[45]⟩] w fun e w' => e = .returned (.bool false) ∧ w' = w)) (HP : Hid (∀ w, Calls Tryz.prog 101 #[.string r, .string ⟨#[43]⟩] w fun e w' => e = .returned (.bool false) ∧ w' = w)) (HC : Hid (∀ w : World, Calls Tryz.prog 87 #[.string r] w fun e w' => e = .returned (.tuple #[.string d, .string t]) ∧ Below w.heap.size w w')) (hd : d.toList.isEmpty = true) :
    Calls Tryz.prog 88 #[.string s] w fun q w' => q = .returned (.tuple #[.int .i64 0, .bool false]) ∧ Below w.heap.size w w' := by
  go_enter Tryz.func88, Tryz.ntmps88
  go_wp2_with fail
  refine (HCP.out _).mono ?_
  rintro q w1 ⟨rfl, rfl⟩
  go_wp2_with fail
  refine (HN.out _).mono ?_
  rintro q w1 ⟨rfl, rfl⟩
  go_wp2_with fail
  refine (HP.out _).mono ?_
  rintro q w1 ⟨rfl, rfl⟩
  go_wp2_with fail
  refine (HC.out _).mono ?_
  rintro q w1 ⟨rfl, hb1⟩
  have HBB := Lib.hid hb1
  clear hb1
  go_wp2_with fail
  go_ret2
  exact ⟨rfl, HBB.out⟩

set_option maxRecDepth 100000 in
set_option maxHeartbeats 1600000 in
theorem ex_tne_z (s r r2 t : ByteArray) (d : ByteArray) (w : World) (hl : s.size ≤ 9223372036854775807) (hne : s.toList.isEmpty = false) (HCP : Hid (∀ w, Calls Tryz.prog 86 #[.string s, .string ⟨#[101]⟩] w fun e w' => e = .returned (.tuple #[.string r, .bool true]) ∧ w' = w)) (HN : Hid (∀ w, Calls Tryz.prog 101 #[.string r, .string ⟨#[45]⟩] w fun e w' => e = .returned (.bool false) ∧ w' = w)) (HP : Hid (∀ w, Calls Tryz.prog 101 #[.string r, .string ⟨#[43]⟩] w fun e w' => e = .returned (.bool false) ∧ w' = w)) (HC : Hid (∀ w : World, Calls Tryz.prog 87 #[.string r] w fun e w' => e = .returned (.tuple #[.string d, .string t]) ∧ Below w.heap.size w w')) (hd : d.toList.isEmpty = false) (ht : t.toList.isEmpty = false) :
    Calls Tryz.prog 88 #[.string s] w fun q w' => q = .returned (.tuple #[.int .i64 0, .bool false]) ∧ Below w.heap.size w w' := by
  go_enter Tryz.func88, Tryz.ntmps88
  go_wp2_with fail
  refine (HCP.out _).mono ?_
  rintro q w1 ⟨rfl, rfl⟩
  go_wp2_with fail
  refine (HN.out _).mono ?_
  rintro q w1 ⟨rfl, rfl⟩
  go_wp2_with fail
  refine (HP.out _).mono ?_
  rintro q w1 ⟨rfl, rfl⟩
  go_wp2_with fail
  refine (HC.out _).mono ?_
  rintro q w1 ⟨rfl, hb1⟩
  have HBB := Lib.hid hb1
  clear hb1
  go_wp2_with fail
  go_ret2
  exact ⟨rfl, HBB.out⟩

set_option maxRecDepth 100000 in
set_option maxHeartbeats 1600000 in
theorem ex_ok_z (s r r2 t : ByteArray) (d : ByteArray) (w : World) (hl : s.size ≤ 9223372036854775807) (hne : s.toList.isEmpty = false) (HCP : Hid (∀ w, Calls Tryz.prog 86 #[.string s, .string ⟨#[101]⟩] w fun e w' => e = .returned (.tuple #[.string r, .bool true]) ∧ w' = w)) (HN : Hid (∀ w, Calls Tryz.prog 101 #[.string r, .string ⟨#[45]⟩] w fun e w' => e = .returned (.bool false) ∧ w' = w)) (HP : Hid (∀ w, Calls Tryz.prog 101 #[.string r, .string ⟨#[43]⟩] w fun e w' => e = .returned (.bool false) ∧ w' = w)) (HC : Hid (∀ w : World, Calls Tryz.prog 87 #[.string r] w fun e w' => e = .returned (.tuple #[.string d, .string t]) ∧ Below w.heap.size w w')) (hd : d.toList.isEmpty = false) (HDG : Hid (∀ (k : Nat) (h : k < d.size), 48 ≤ d[k].toNat ∧ d[k].toNat ≤ 57)) (hdl : d.size ≤ 9223372036854775807) (ht : t.toList.isEmpty = true) :
    Calls Tryz.prog 88 #[.string s] w fun q w' => q = .returned (.tuple #[.int .i64 ((exB d)), .bool true]) ∧ Below w.heap.size w w' := by
  go_enter Tryz.func88, Tryz.ntmps88
  go_wp2_with fail
  refine (HCP.out _).mono ?_
  rintro q w1 ⟨rfl, rfl⟩
  go_wp2_with fail
  refine (HN.out _).mono ?_
  rintro q w1 ⟨rfl, rfl⟩
  go_wp2_with fail
  refine (HP.out _).mono ?_
  rintro q w1 ⟨rfl, rfl⟩
  go_wp2_with fail
  refine (HC.out _).mono ?_
  rintro q w1 ⟨rfl, hb1⟩
  have HBB := Lib.hid hb1
  clear hb1
  go_wp2_with fail
  go_loopw [2, 42] (fun e i wr => ∃ (k : Nat) (x : Int), k ≤ d.size ∧ i = .int .i64 k ∧ e = .int .i64 x ∧ x = (d.data.toList.take k).foldl exS 0 ∧ 0 ≤ x ∧ x ≤ 1000 ∧ wr = w1) (fun _ i _ => d.size - (intOf i).toNat)
  case atStart => exact ⟨0, 0, Nat.zero_le _, rfl, rfl, rfl, by decide, by decide, rfl⟩
  case round =>
    obtain ⟨k, x, hk, rfl, rfl, hx, hx0, hx1, rfl⟩ := hrel
    have HV := Lib.hid hx
    clear hx
    by_cases hlt : k < d.size
    · obtain ⟨hb1, hb2⟩ := HDG.out k hlt
      have HS := Lib.hid (exB_step d k hlt)
      rw [← HV.out] at HS
      have hsb := exS_bd x d[k] hx0 hx1
      obtain ⟨y, hy⟩ : ∃ y, y = exS x d[k] := ⟨_, rfl⟩
      rw [← hy] at HS hsb
      have hmn : ∀ w, Sem.run Tryz.prog (Builtin.min_ #[3, 3] 3 #[.int .i64 (10 * x + ((d[k].toNat : Int) - 48)), .int .i64 1000]) w = .ok (.int .i64 y) w := fun w => by
        rw [hy, show exS x d[k] = (if (1000 : Int) < 10 * x + ((d[k].toNat : Int) - 48) then 1000 else 10 * x + ((d[k].toNat : Int) - 48)) from by unfold exS; split <;> omega]
        kernel_rfl
      have HY := Lib.hid hy
      clear hy
      have hi1 : (48 : Int) ≤ (d[k].toNat : Int) := by omega
      have hi2 : (d[k].toNat : Int) ≤ 57 := by omega
      have hki : (k : Int) < (d.size : Int) := by omega
      go_wp2_with fail
      exact ⟨⟨k + 1, y, by omega, by simp, rfl, HS.out.symm, hsb.1, hsb.2, by first | trivial | rfl⟩, by simp [intOf]; omega⟩
    · obtain rfl : k = d.size := by omega
      have HE := Lib.hid (show exB d = x from by rw [HV.out]; unfold exB exV; rw [List.take_of_length_le (by rw [Lib.size_eq]; exact Nat.le_refl _)])
      go_wp2_with fail
      go_ret2
      exact ⟨by rw [HE.out]; rfl, HBB.out⟩

end Go.Proofs.YtbfknapmhkpgcaaGreatDoor
