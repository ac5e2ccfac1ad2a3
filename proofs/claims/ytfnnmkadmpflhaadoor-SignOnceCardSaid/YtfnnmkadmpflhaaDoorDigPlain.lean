/-
  Plain facts of the digest FNV-1a with 64 bits, of decimal texts, and of the bytes of a digest. No program.
-/
import Derived.Lib.ItoaMem
import Derived.Lib.ItoaLen
namespace Go.Proofs.YtfnnmkadmpflhaaDoor
namespace Dg

/-- One step of the digest. -/
def fs (d : BitVec 64) (b : UInt8) : BitVec 64 := (d ^^^ b.toBitVec.setWidth 64) * 1099511628211#64
/-- The digest is carried on by bytes. -/
def fl (d : BitVec 64) (l : List UInt8) : BitVec 64 := l.foldl fs d
/-- The digest of no bytes. -/
def f0 : BitVec 64 := 14695981039346656037#64
/-- The digest of bytes. -/
def tx (l : List UInt8) : BitVec 64 := fl f0 l

theorem fl_nil (d : BitVec 64) : fl d [] = d := rfl
theorem fl_cons (d : BitVec 64) (b : UInt8) (l : List UInt8) : fl d (b :: l) = fl (fs d b) l := rfl
theorem fl_append (d : BitVec 64) (k l : List UInt8) : fl d (k ++ l) = fl (fl d k) l := List.foldl_append
theorem fl_snoc (d : BitVec 64) (l : List UInt8) (b : UInt8) : fl d (l ++ [b]) = fs (fl d l) b := by rw [fl_append]; rfl

theorem mul_back (x : BitVec 64) : x * 1099511628211#64 * 14886173955864302971#64 = x := by
  rw [BitVec.mul_assoc, show (1099511628211#64 * 14886173955864302971#64 : BitVec 64) = 1#64 by decide, BitVec.mul_one]
theorem mul_inj {x y : BitVec 64} (h : x * 1099511628211#64 = y * 1099511628211#64) : x = y := by
  rw [← mul_back x, ← mul_back y, h]
theorem fs_inj {d e : BitVec 64} {b : UInt8} (h : fs d b = fs e b) : d = e := by
  have := mul_inj h
  rw [← BitVec.xor_zero (x := d), ← BitVec.xor_self (x := b.toBitVec.setWidth 64), ← BitVec.xor_assoc, this, BitVec.xor_assoc, BitVec.xor_self, BitVec.xor_zero]
theorem wide_inj {b c : UInt8} (h : b.toBitVec.setWidth 64 = c.toBitVec.setWidth 64) : b = c := by
  have h1 : (b.toBitVec.setWidth 64).toNat = (c.toBitVec.setWidth 64).toNat := by rw [h]
  rw [BitVec.toNat_setWidth, BitVec.toNat_setWidth] at h1
  have hb := b.toBitVec.isLt
  have hc := c.toBitVec.isLt
  rw [Nat.mod_eq_of_lt (by omega), Nat.mod_eq_of_lt (by omega)] at h1
  exact UInt8.eq_of_toBitVec_eq (BitVec.eq_of_toNat_eq h1)
theorem fs_byte {d : BitVec 64} {b c : UInt8} (h : fs d b = fs d c) : b = c := by
  have := mul_inj h
  refine wide_inj ?_
  rw [← BitVec.zero_xor (x := b.toBitVec.setWidth 64), ← BitVec.xor_self (x := d), BitVec.xor_assoc, this, ← BitVec.xor_assoc, BitVec.xor_self, BitVec.zero_xor]
theorem fl_inj : ∀ (l : List UInt8) {d e : BitVec 64}, fl d l = fl e l → d = e
  | [], _, _, h => h
  | b :: l, _, _, h => fs_inj (fl_inj l (by rw [← fl_cons, ← fl_cons]; exact h))
theorem fl_iff (l : List UInt8) (d e : BitVec 64) : fl d l = fl e l ↔ d = e := ⟨fl_inj l, fun h => by rw [h]⟩
/-- Bytes that differ in one byte at most: the digest is the same exactly if they are. -/
theorem fl_one (d : BitVec 64) (k l : List UInt8) (b c : UInt8) : fl d (k ++ b :: l) = fl d (k ++ c :: l) ↔ b = c := by
  rw [fl_append, fl_append, fl_cons, fl_cons, fl_iff]
  exact ⟨fs_byte, fun h => by rw [h]⟩
theorem set_split {l : List UInt8} {i : Nat} (h : i < l.length) (b : UInt8) : l.set i b = l.take i ++ b :: l.drop (i + 1) := by
  rw [List.set_eq_take_append_cons_drop, if_pos h]
theorem get_split {l : List UInt8} {i : Nat} (h : i < l.length) : l = l.take i ++ l[i] :: l.drop (i + 1) := by
  rw [List.getElem_cons_drop, List.take_append_drop]
theorem fl_set (d : BitVec 64) (l : List UInt8) (i : Nat) (h : i < l.length) (b : UInt8) : fl d l = fl d (l.set i b) ↔ b = l[i] := by
  rw [set_split h]
  conv => lhs; lhs; rw [get_split h]
  rw [fl_one]
  exact eq_comm

/-! ### What the walk reckons -/
/-- A digest as a value's number. -/
def dv (d : BitVec 64) : Int := (d.toNat : Int)
theorem dv_bd (d : BitVec 64) : 0 ≤ dv d ∧ dv d ≤ 18446744073709551615 := by
  unfold dv
  have := d.isLt
  omega
theorem dv_inj {d e : BitVec 64} (h : dv d = dv e) : d = e := BitVec.eq_of_toNat_eq (by unfold dv at h; omega)
theorem of_dv {n : Int} (h0 : 0 ≤ n) (h1 : n ≤ 18446744073709551615) : ∃ d, n = dv d := ⟨BitVec.ofNat 64 n.toNat, by
  unfold dv
  rw [BitVec.toNat_ofNat, Nat.mod_eq_of_lt (by omega)]
  omega⟩

/-! ### Bytes of a digest, texts of integers -/
/-- The byte of a digest at i, from the highest one. -/
def by8 (d : BitVec 64) (i : Nat) : UInt8 := UInt8.ofBitVec ((d >>> (56 - 8 * i)).setWidth 8)
def head8 (d : BitVec 64) : List UInt8 := (List.range 8).map (by8 d)
def ints (l : List Int) : List UInt8 := l.flatMap fun n => Lib.itoa n ++ [32]
def bs (d : BitVec 64) (l : List Int) : List UInt8 := head8 d ++ ints l
def nx (d : BitVec 64) (l : List Int) : BitVec 64 := tx (bs d l)

theorem ints_nil : ints [] = [] := rfl
theorem ints_cons (n : Int) (l : List Int) : ints (n :: l) = Lib.itoa n ++ 32 :: ints l := by unfold ints; rw [List.flatMap_cons, List.append_assoc]; rfl
theorem ints_append (k l : List Int) : ints (k ++ l) = ints k ++ ints l := List.flatMap_append
theorem ints_snoc (l : List Int) (n : Int) : ints (l ++ [n]) = ints l ++ (Lib.itoa n ++ [32]) := by rw [ints_append, ints_cons]; rfl

/-- The digits ahead of the last one. -/
def pre (q : Nat) : List UInt8 := if q = 0 then [] else Lib.decDigits q
theorem itoa_last {n : Int} (h : 0 ≤ n) : Lib.itoa n = pre (n.toNat / 10) ++ [UInt8.ofNat (48 + n.toNat % 10)] := by
  unfold Lib.itoa pre
  rw [if_neg (by omega), Lib.decDigits]
  split
  · rw [if_pos (by omega), Nat.mod_eq_of_lt (by omega)]; rfl
  · rw [if_neg (by omega)]
theorem digit_inj {a b : Nat} (ha : a < 10) (hb : b < 10) (h : UInt8.ofNat (48 + a) = UInt8.ofNat (48 + b)) : a = b := by
  have := congrArg UInt8.toNat h
  rw [UInt8.toNat_ofNat', UInt8.toNat_ofNat'] at this
  omega
/-- If the last digit of one integer that is not negative is another one, the digests are different. -/
theorem nx_digit (d : BitVec 64) (k l : List Int) (n m : Int) (hn : 0 ≤ n) (hm : 0 ≤ m) (e : n.toNat / 10 = m.toNat / 10) : nx d (k ++ n :: l) = nx d (k ++ m :: l) ↔ n = m := by
  refine ⟨fun h => ?_, fun h => by rw [h]⟩
  unfold nx tx bs at h
  rw [ints_append, ints_append, ints_cons, ints_cons, itoa_last hn, itoa_last hm, e, List.append_assoc (pre _), List.append_assoc (pre _), List.singleton_append, List.singleton_append, ← List.append_assoc, ← List.append_assoc, ← List.append_assoc, ← List.append_assoc, fl_one] at h
  have := digit_inj (Nat.mod_lt _ (by decide)) (Nat.mod_lt _ (by decide)) h
  omega
end Dg
end Go.Proofs.YtfnnmkadmpflhaaDoor
