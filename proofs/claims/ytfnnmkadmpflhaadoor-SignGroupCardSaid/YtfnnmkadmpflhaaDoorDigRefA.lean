/-
  The reference functions of layer 5: the digest of a text.
-/
import Derived.Test.YtfnnmkadmpflhaaDoorWorld
import Derived.Test.YtfnnmkadmpflhaaDoorDigPlain
import Derived.Laws.Bits64
namespace Go.Proofs.YtfnnmkadmpflhaaDoor
open Go.RowKit Wd
namespace Dg
set_option maxRecDepth 100000

theorem dv_mul (x : BitVec 64) : IntKind.u64.wrap (dv x * 1099511628211) = dv (x * 1099511628211#64) := by
  rw [IntKind.wrap_u64]
  unfold dv
  rw [BitVec.toNat_mul, show (1099511628211#64 : BitVec 64).toNat = 1099511628211 from by decide]
  rw [Int.natCast_emod, Int.natCast_mul]
  rfl
theorem dv_of (d : BitVec 64) : BitVec.ofInt 64 (dv d) = d := by unfold dv; rw [BitVec.ofInt_natCast, BitVec.ofNat_toNat, BitVec.setWidth_eq]
theorem dv_byte (b : UInt8) : IntKind.u64.wrap (b.toNat : Int) = dv (b.toBitVec.setWidth 64) := by
  have := b.toNat_lt
  rw [IntKind.wrap_u64]
  unfold dv
  rw [BitVec.toNat_setWidth]
  have e : b.toBitVec.toNat = b.toNat := rfl
  rw [e]
  omega
theorem dv_wrap (d : BitVec 64) : IntKind.u64.wrap (dv d) = dv d := by
  have := d.isLt
  rw [IntKind.wrap_u64]
  unfold dv
  omega
theorem dv_xor (x y : BitVec 64) : bits .xor .u64 (dv x) (dv y) = dv (x ^^^ y) := by
  have e : bits .xor .u64 (dv x) (dv y) = IntKind.u64.wrap ((BitVec.ofInt 64 (dv x) ^^^ BitVec.ofInt 64 (dv y)).toNat : Int) := rfl
  rw [e, dv_of, dv_of]
  exact dv_wrap _
theorem step_bits (d : BitVec 64) (b : UInt8) : IntKind.u64.wrap (bits .xor .u64 (dv d) (IntKind.u64.wrap (b.toNat : Int)) * 1099511628211) = dv (fs d b) := by
  rw [dv_byte, dv_xor, dv_mul]
  rfl
theorem take_next {l : List UInt8} {k : Nat} (h : k < l.length) : fl f0 (l.take (k + 1)) = fs (fl f0 (l.take k)) l[k] := by rw [List.take_succ_eq_append_getElem h, fl_snoc]
set_option maxHeartbeats 4000000 in
theorem rtext (s : ByteArray) (w : World) (h : s.size ≤ 9223372036854775807) : Calls Tryd.prog 37 #[.string s] w fun e w' => e = .returned (.int .u64 (dv (tx s.data.toList))) ∧ Grew w w' := by
  have HS : Hid (s.size = s.data.toList.length) := Lib.hid (by rw [Array.length_toList]; rfl)
  go_enter Tryd.func37, Tryd.ntmps37
  go_wp2_with fail
  go_loopw [3, 4] (fun u i wr => ∃ k : Nat, k ≤ s.size ∧ i = .int .i64 k ∧ u = .int .u64 (dv (fl f0 (s.data.toList.take k))) ∧ w = wr) (fun _ i _ => s.size - (intOf i).toNat)
  case atStart => exact ⟨0, Nat.zero_le _, rfl, rfl, rfl⟩
  case round =>
    obtain ⟨k, hk, rfl, rfl, rfl⟩ := hrel
    by_cases hlt : k < s.size
    · have i0 : (0 : Int) ≤ (k : Int) := by omega
      have i1 : (k : Int) < (s.size : Int) := by omega
      have NX : Hid (IntKind.u64.wrap (bits .xor .u64 (dv (fl f0 (s.data.toList.take k))) (IntKind.u64.wrap (s[k].toNat : Int)) * 1099511628211) = dv (fl f0 (s.data.toList.take (k + 1)))) :=
        Lib.hid (by rw [step_bits, take_next (by rw [← HS.out]; exact hlt)]; rfl)
      go_wp2_with fail
      go_roundw
      case rel => exact ⟨k + 1, by omega, by go_num, by rw [NX.out], trivial⟩
      case measure => simp [intOf]; omega
    · obtain rfl : k = s.size := by omega
      go_wp2_with fail
      go_ret
      exact ⟨by rw [HS.out, List.take_length]; rfl, Grew.refl _⟩
end Dg
end Go.Proofs.YtfnnmkadmpflhaaDoor
