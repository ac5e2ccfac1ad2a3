/-
  The laws DigestOneByte .. of layer 5, under what package digest owes.
-/
import Derived.Test.YtgdcoofbjadgoaaDoorDigLawsA
import Derived.Laws.IdiomStrings
namespace Go.Proofs.YtgdcoofbjadgoaaDoor
open Go.RowKit Wd
namespace Dg
set_option maxRecDepth 100000

theorem row_size (s : ByteArray) (q : Nat) : s.size ≤ (bytesRow s q).size := by
  unfold bytesRow
  simp
theorem xor_bytes (x y : UInt8) : bits .xor .u8 (x.toNat : Int) (y.toNat : Int) = ((x ^^^ y).toNat : Int) := by
  have e : bits .xor .u8 (x.toNat : Int) (y.toNat : Int) = IntKind.u8.wrap ((BitVec.ofInt 8 (x.toNat : Int) ^^^ BitVec.ofInt 8 (y.toNat : Int)).toNat : Int) := rfl
  have f : ∀ z : UInt8, BitVec.ofInt 8 (z.toNat : Int) = z.toBitVec := fun z => by
    rw [BitVec.ofInt_natCast]
    apply BitVec.eq_of_toNat_eq
    rw [BitVec.toNat_ofNat]
    exact Nat.mod_eq_of_lt z.toNat_lt
  rw [e, f, f]
  have h := (x.toBitVec ^^^ y.toBitVec).isLt
  have g : IntKind.u8.wrap ((x.toBitVec ^^^ y.toBitVec).toNat : Int) = ((x.toBitVec ^^^ y.toBitVec).toNat : Int) := by
    have u : ∀ n : Int, IntKind.u8.wrap n = n % 256 := fun n => by simp [IntKind.wrap, IntKind.bits, IntKind.signed]
    rw [u]
    omega
  rw [g]
  rfl
/-- Bytes that lie in a block. -/
def By (W : World) (g : Nat) (l : List UInt8) : Prop := ∀ j (hj : j < l.length), W.cell? ⟨g, j, none⟩ = some (.int .u8 (l[j].toNat : Int))
theorem By.grew {W w : World} {g : Nat} {l : List UInt8} (h : By W g l) (hg : g < W.heap.size) (k : Grew W w) : By w g l := fun j hj => by rw [k.cell hg]; exact h j hj
/-- What stays while texts are made. -/
def Kp (w : World) (g : Nat) (l : List UInt8) (W : World) : Prop := Grew w W ∧ g < W.heap.size ∧ By W g l
theorem Kp.drew {w : World} {g : Nat} {l : List UInt8} {W : World} (h : Kp w g l W) : Kp w g l W.drew := ⟨h.1.drew, h.2.1, h.2.2⟩
theorem Kp.grew {w : World} {g : Nat} {l : List UInt8} {W v : World} (h : Kp w g l W) (k : Grew W v) : Kp w g l v := ⟨h.1.trans k, Nat.lt_of_lt_of_le h.2.1 k.size, h.2.2.grew h.2.1 k⟩
theorem conv_by {W : World} {g : Nat} {l : List UInt8} (h : By W g l) (q : Nat) : (convert 32 9 (.slice (some ⟨g, 0, none⟩) l.length q)).run Tryd.prog W = .ok (.string ⟨l.toArray⟩) W :=
  run_convert_bytes_back W 32 9 5 ⟨g, 0, none⟩ q l Tryd.underlying32 Tryd.underlying5 Tryd.underlying9 (fun j hj => by rw [add_at]; exact h j hj)
theorem onebyte_fin (l : List UInt8) (k : Nat) (h : k < l.length) (r y : UInt8) (hr : r = l[k] ^^^ y) : (dv (tx l) == dv (tx (l.set k r))) = ((y.toNat : Int) == 0) := by
  rw [dv_eq, show ((y.toNat : Int) == 0) = decide (y = 0) from ?_]
  · refine decide_eq_decide.2 ?_
    unfold tx
    rw [fl_set f0 l k h r, hr]
    constructor
    · intro e
      rw [← UInt8.zero_xor (a := y), ← UInt8.xor_self (a := l[k]), UInt8.xor_assoc, e, UInt8.xor_self]
    · rintro rfl
      rw [UInt8.xor_zero]
  · by_cases e : y = 0
    · subst e; rfl
    · rw [decide_eq_false e, beq_eq_false_iff_ne]
      intro h
      exact e (UInt8.toNat_inj.1 (by have : y.toNat = 0 := by omega
                                     rw [this]; rfl))
theorem set_cells (w : World) (C : Array Value) (t : TypeId) (lo hi k : Nat) (r : UInt8) (l : List UInt8) (j : Nat) (hj : j < l.length) (hk : k < l.length) (hC : ∀ i (h : i < l.length), C[i]? = some (.int .u8 (l[i].toNat : Int))) : ((w.alloc (.cells C t (lo, hi))).setCell ⟨w.heap.size, k, none⟩ (.int .u8 (r.toNat : Int))).cell? ⟨w.heap.size, j, none⟩ = some (.int .u8 ((l.set k r)[j]'(by rw [List.length_set]; exact hj)).toNat) := by
  by_cases e : k = j
  · subst e
    refine (World.cell?_setCell_same (u := .int .u8 (l[k].toNat : Int)) (h := ?_) ..).trans ?_
    · rw [World.cell?_alloc_mark]; exact hC k hk
    · rw [List.getElem_set_self]
  · refine (World.cell?_setCell_other (h := ?_) ..).trans ?_
    · intro h
      injection h with _ h2
      exact e h2
    · rw [World.cell?_alloc_mark, hC j hj, List.getElem_set_ne e]
set_option maxHeartbeats 8000000 in
theorem onebyte_true {T : World → Prop} (K : Code T) (s : ByteArray) (p : Nat) (y : UInt8) (w : World) (hT : T w) (hz : s.size ≤ 9223372036854775807) (hp : p ≤ 65535) : Calls Tryd.prog 4 #[.string s, .int .u16 (p : Int), .int .u8 (y.toNat : Int)] w fun e w' => e = .returned (.bool true) ∧ Grew w w' := by
  have HD := Lib.hid (head_true K w hT)
  have KK := Lib.hid (fun W (g : Grew w W) => K.keep _ _ g hT)
  have KC := Lib.hid K
  clear K hT
  by_cases h1 : s.size = 0
  · clear KK KC
    have h2 : ((s.size : Int) == 0) = true := by rw [h1]; rfl
    go_enter Tryd.func4, Tryd.ntmps4
    go_wp2_with fail
    refine (HD.out).mono ?_
    rintro e w1 ⟨rfl, g1'⟩
    have g1 : Grew w w1 := Grew.trans (Grew.refl _) g1'
    clear g1'
    go_wp2_with fail
    go_ret
    exact ⟨by simp, g1⟩
  · by_cases h2 : s.size ≤ 500
    · have h3 : ((s.size : Int) == 0) = false := by rw [beq_eq_false_iff_ne]; omega
      have h4 : (s.size : Int) ≠ 0 := by omega
      have TX : Hid (∀ (s : ByteArray) W, s.size ≤ 500 → Grew w W → Calls Tryd.prog 10 #[.string s] W fun e w' => e = .returned (.int .u64 (dv (tx s.data.toList))) ∧ Grew W w') := Lib.hid fun s W hs g => KC.out.text s W (KK.out W g) (by omega)
      have CV : Hid (∀ W, (convert 9 32 (.string s)).run Tryd.prog W = .ok (.slice (some ⟨W.heap.size, 0, none⟩) s.size (grownCap W s.size 0 5)) (W.drew.alloc (.cells (bytesRow s (grownCap W s.size 0 5)) 5 ((bytesRow s (grownCap W s.size 0 5)).size, (bytesRow s (grownCap W s.size 0 5)).size + 1)))) := Lib.hid fun W => run_bytes_of_string W 9 32 5 s Tryd.underlying9 Tryd.underlying32 Tryd.underlying5
      obtain ⟨k, hk⟩ : ∃ k : Nat, k = p % s.size := ⟨_, rfl⟩
      have hk0 : k < s.size := by rw [hk]; exact Nat.mod_lt _ (by omega)
      have hk1 : (p : Int) % (s.size : Int) = (k : Int) := by rw [hk]; omega
      have i0 : (0 : Int) ≤ (k : Int) := by omega
      have i1 : (k : Int) < (s.size : Int) := by omega
      clear KK KC hk
      go_enter Tryd.func4, Tryd.ntmps4
      go_wp2_with fail
      refine (HD.out).mono ?_
      rintro e w1 ⟨rfl, g1'⟩
      have g1 : Grew w w1 := Grew.trans (Grew.refl _) g1'
      clear g1'
      obtain ⟨q, hq⟩ : ∃ q, q = grownCap w1 s.size 0 5 := ⟨_, rfl⟩
      have CV1 := CV.out w1
      rw [← hq] at CV1
      obtain ⟨C, hC⟩ : ∃ C, C = bytesRow s q := ⟨_, rfl⟩
      rw [← hC] at CV1
      have CA : Hid (∀ j (h : j < s.data.toList.length), C[j]? = some (.int .u8 (s.data.toList[j].toNat : Int))) := Lib.hid (fun j h => by rw [hC, bytesRow_at s q j (by rw [Array.length_toList] at h; exact h), Array.getElem_toList])
      have CZ : Hid (s.size ≤ C.size) := Lib.hid (by rw [hC]; exact row_size s q)
      have kl : k < s.data.toList.length := by rw [Array.length_toList]; exact hk0
      obtain ⟨b, hb⟩ : ∃ b, b = s.data.toList[k] := ⟨_, rfl⟩
      have c0 : (w1.alloc (.cells C 5 (C.size, C.size + 1))).cell? ⟨w1.heap.size, k, none⟩ = some (.int .u8 (b.toNat : Int)) := by rw [World.cell?_alloc_mark, CA.out k kl, hb]
      have z0 : (w1.alloc (.cells C 5 (C.size, C.size + 1))).frozen? ⟨w1.heap.size, k, none⟩ = false := by rw [World.frozen?_alloc_mark, decide_eq_false (by have := CZ.out; omega)]; rfl
      obtain ⟨r, hr⟩ : ∃ r, r = b ^^^ y := ⟨_, rfl⟩
      have xy := xor_bytes b y
      rw [← hr] at xy
      obtain ⟨m, hm⟩ : ∃ m, m = s.data.toList.set k r := ⟨_, rfl⟩
      have ML : Hid (m.length = s.size) := Lib.hid (by rw [hm, List.length_set, Array.length_toList]; rfl)
      have FIN : Hid ((dv (tx s.data.toList) == dv (tx m)) = ((y.toNat : Int) == 0)) := Lib.hid (by rw [hm]; exact onebyte_fin s.data.toList k kl r y (by rw [hr, hb]))
      have BM : Hid (By ((w1.alloc (.cells C 5 (C.size, C.size + 1))).setCell ⟨w1.heap.size, k, none⟩ (.int .u8 (r.toNat : Int))) w1.heap.size m) := Lib.hid (by
        rw [hm]
        intro j hj
        rw [List.length_set] at hj
        have l1 : C[j]? = some (.int .u8 (s.data.toList[j].toNat : Int)) := CA.out j hj
        exact set_cells w1 C 5 _ _ k r _ j hj kl (fun i hi => CA.out i hi))
      clear hq hC hb hr hm kl CA CZ
      have CVH : Hid (∀ (W : World), By W w1.heap.size m → (convert 32 9 (.slice (some ⟨w1.heap.size, 0, none⟩) s.size q)).run Tryd.prog W = .ok (.string ⟨m.toArray⟩) W) := Lib.hid (fun W hB => by rw [← ML.out]; exact conv_by hB q)
      go_wp2_with fail
      obtain ⟨V, hV⟩ : ∃ V, V = (w1.alloc (.cells C 5 (C.size, C.size + 1))).setCell ⟨w1.heap.size, k, none⟩ (.int .u8 (r.toNat : Int)) := ⟨_, rfl⟩
      have GV : Grew w V := by rw [hV]; exact Below.setCell (Below.alloc g1 g1.size _) g1.size _
      have VZ : w1.heap.size < V.heap.size := by rw [hV]; simp [World.setCell]
      rw [← hV] at BM ⊢
      clear hV
      have MS : Hid ((ByteArray.mk m.toArray).size ≤ 500) := Lib.hid (by show m.toArray.size ≤ 500; rw [List.size_toArray, ML.out]; exact h2)
      have S0 : Kp w w1.heap.size m V := ⟨GV, VZ, BM.out⟩
      have CVK : ∀ (W : World), Kp w w1.heap.size m W → (convert 32 9 (.slice (some ⟨w1.heap.size, 0, none⟩) s.size q)).run Tryd.prog W = .ok (.string ⟨m.toArray⟩) W := fun W h => CVH.out W h.2.2
      have T1 : Hid (∀ W, Kp w w1.heap.size m W → Calls Tryd.prog 10 #[.string s] W fun e w' => e = .returned (.int .u64 (dv (tx s.data.toList))) ∧ Kp w w1.heap.size m w') := Lib.hid fun W h => (TX.out s W h2 h.1).mono (by rintro e w' ⟨rfl, g⟩; exact ⟨rfl, h.grew g⟩)
      have T2 : Hid (∀ W, Kp w w1.heap.size m W → Calls Tryd.prog 10 #[.string ⟨m.toArray⟩] W fun e w' => e = .returned (.int .u64 (dv (tx m))) ∧ Kp w w1.heap.size m w') := Lib.hid fun W h => (TX.out ⟨m.toArray⟩ W MS.out h.1).mono (by rintro e w' ⟨rfl, g⟩; exact ⟨rfl, h.grew g⟩)
      clear c0 z0 CV1 BM GV VZ TX CVH CV g1 MS ML
      go_region_held3 (fun W => Kp w w1.heap.size m W) (first | assumption | exact Kp.drew (by assumption) | exact Kp.drew (Kp.drew (by assumption))) (first
        | (go_at_call_of 10 (Value.string s); refine (T1.out _ (by assumption)).mono ?_; rintro e w5 ⟨rfl, S5⟩)
        | (go_at_call_of 10 (Value.string ⟨m.toArray⟩); refine (T2.out _ (by assumption)).mono ?_; rintro e w5 ⟨rfl, S5⟩))
      go_wp2_with fail
      go_ret
      exact ⟨by simp [FIN.out], (show Kp w w1.heap.size m _ by assumption).1⟩
    · have h3 : ((s.size : Int) == 0) = false := by rw [beq_eq_false_iff_ne]; omega
      have h4 : (500 : Int) < (s.size : Int) := by omega
      clear KK KC
      go_enter Tryd.func4, Tryd.ntmps4
      go_wp2_with fail
      refine (HD.out).mono ?_
      rintro e w1 ⟨rfl, g1'⟩
      have g1 : Grew w w1 := Grew.trans (Grew.refl _) g1'
      clear g1'
      go_wp2_with fail
      go_ret
      exact ⟨by simp, g1⟩
end Dg
end Go.Proofs.YtgdcoofbjadgoaaDoor
