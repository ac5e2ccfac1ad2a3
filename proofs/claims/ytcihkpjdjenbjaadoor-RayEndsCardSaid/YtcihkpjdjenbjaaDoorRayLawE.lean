/-
  Under what the packages ray and hull owe: the law RayEnds returns true.
-/
import Derived.Test.YtcihkpjdjenbjaaDoorRayLawD
namespace Go.Proofs.YtcihkpjdjenbjaaDoor
open Go.RowKit Hl Ex
namespace Ry
set_option maxRecDepth 100000

theorem sec_sub {a n k : Nat} {lo hi : Int} (ha : a < 64) (hn : n ≤ 31) (hk : k = a ∨ k = (a + n) % 64) {x : Pt} (h : x ∈ secL k 0 lo hi) : x ∈ secL a n lo hi := by
  have e : ∃ i, i ≤ n ∧ dir k = dir (a + i) := by
    rcases hk with rfl | rfl
    · exact ⟨0, Nat.zero_le _, rfl⟩
    · exact ⟨n, Nat.le_refl _, dir_mod (by omega)⟩
  have e2 : dir k = dir a ∨ dir k = dir (a + n) := by
    rcases hk with rfl | rfl
    · exact Or.inl rfl
    · exact Or.inr (dir_mod (by omega))
  obtain ⟨i, hi', e⟩ := e
  have near : x ∈ bx (dir k) lo 1001 → x ∈ secL a n lo hi := fun g => by
    rcases e2 with e2 | e2
    · rw [e2] at g; exact mem_sec.2 (Or.inl g)
    · rw [e2] at g; exact mem_sec.2 (Or.inr (Or.inl g))
  rcases mem_sec.1 h with g | g | ⟨j, hj, g⟩
  · exact near g
  · exact near g
  · obtain rfl : j = 0 := by omega
    rw [Nat.add_zero, e] at g
    exact mem_sec.2 (Or.inr (Or.inr ⟨i, hi', g⟩))
theorem ends_has {a n k : Nat} {lo hi : Int} {p q : List Pt} (ha : a < 64) (hn : n ≤ 31) (h0 : 0 ≤ lo) (h1 : lo ≤ hi) (h2 : hi ≤ 100000) (hk : k = a ∨ k = (a + n) % 64) (hp : IsHull (secL a n lo hi) p) (hq : IsHull (secL k 0 lo hi) q) {m : Nat} (hm : m < q.length) : Hs p (at' q m) ∧ Plc (at' q m) :=
  ⟨hp.2.2 _ (sec_sub ha hn hk (hq.2.1 _ (at_mem hm))), hull_plcs hq (secL_plcs h0 h1 h2) m hm⟩
set_option maxHeartbeats 8000000 in
theorem ends_true {T : World → Prop} (F : Code T) (K : Hl.Code) (f m lo more : Int) (w : World) (hT : T w) (hf : 0 ≤ f ∧ f ≤ 255) (hm : 0 ≤ m ∧ m ≤ 255) (hlo : 0 ≤ lo ∧ lo ≤ 65535) (hmo : 0 ≤ more ∧ more ≤ 65535) : Calls Tryd.prog 8 #[.int .u8 f, .int .u8 m, .int .u16 lo, .int .u16 more] w fun e w' => e = .returned (.bool true) ∧ Grew w w' := by
  have TK := Lib.hid (fun W (g : Grew w W) => F.keep w W g hT)
  have HC := Lib.hid (fun W g => head_true F W (TK.out W g))
  obtain ⟨f0, f1⟩ := hf
  obtain ⟨m0, m1⟩ := hm
  obtain ⟨lo0, lo1⟩ := hlo
  obtain ⟨mo0, mo1⟩ := hmo
  obtain ⟨a, ha⟩ : ∃ a : Nat, f % 64 = (a : Int) := ⟨(f % 64).toNat, by omega⟩
  have ta : f.tmod 64 = (a : Int) := by rw [Int.tmod_eq_emod_of_nonneg (by omega)]; exact ha
  obtain ⟨n, hn⟩ : ∃ n : Nat, m % 32 = (n : Int) := ⟨(m % 32).toNat, by omega⟩
  have tn : m.tmod 32 = (n : Int) := by rw [Int.tmod_eq_emod_of_nonneg (by omega)]; exact hn
  have a64 : a < 64 := by omega
  have n31 : n ≤ 31 := by omega
  obtain ⟨l, hl⟩ : ∃ l : Int, lo % 60000 = l := ⟨_, rfl⟩
  have tl : lo.tmod 60000 = l := by rw [Int.tmod_eq_emod_of_nonneg (by omega)]; exact hl
  obtain ⟨u, hu⟩ : ∃ u : Int, more % 40000 = u := ⟨_, rfl⟩
  have tu : more.tmod 40000 = u := by rw [Int.tmod_eq_emod_of_nonneg (by omega)]; exact hu
  have l0 : 0 ≤ l := by omega
  have l1 : l ≤ 59999 := by omega
  have u0 : 0 ≤ u := by omega
  have u1 : u ≤ 39999 := by omega
  obtain ⟨a', ha'⟩ : ∃ a' : Nat, (a + n) % 64 = a' := ⟨_, rfl⟩
  have s1 : ((a : Int) + (n : Int)) % 64 = (a' : Int) := by omega
  have s2 : ((a : Int) + (n : Int)).tmod 64 = (a' : Int) := by rw [Int.tmod_eq_emod_of_nonneg (by omega)]; exact s1
  have S1 := Lib.hid (fun W g => F.fns.sec a n l (l + u) W (TK.out W g) a64 n31 ⟨l0, by omega, by omega⟩)
  have SK := Lib.hid (fun (k : Nat) (hk : k < 64) W g => F.fns.sec k 0 l (l + u) W (TK.out W g) hk (Nat.zero_le _) ⟨l0, by omega, by omega⟩)
  have YV := Lib.hid (fun q (hq : IsHull (secL a n l (l + u)) q) (h64 : q.length ≤ 64) => vl_sec l0 (by omega) (by omega) hq h64)
  have YE := Lib.hid (fun p (hp : IsHull (secL a n l (l + u)) p) k (hk : k = a ∨ k = a') q (hq : IsHull (secL k 0 l (l + u)) q) m (hm : m < q.length) => ends_has a64 n31 l0 (by omega) (by omega) (by rw [ha']; exact hk) hp hq hm)
  have A64 : Hid (a < 64 ∧ a' < 64) := Lib.hid ⟨a64, by omega⟩
  clear TK hT F ha'
  have a0 : (0 : Int) ≤ (a : Int) := by omega
  have a1 : (a : Int) < 64 := by omega
  have n0 : (0 : Int) ≤ (n : Int) := by omega
  have n1 : (n : Int) ≤ 31 := by omega
  have KC := Lib.hid K
  clear K
  go_enter Tryd.func8, Tryd.ntmps8
  go_wp2_with fail
  refine (HC.out _ (Grew.refl _)).mono ?_
  rintro e w2 ⟨rfl, G1⟩
  have kD := Lib.hid (Blk.new w2 #[.int .i64 l, .int .i64 (l + u)] 25)
  have G2 := Lib.hid (G1.alloc #[.int .i64 l, .int .i64 (l + u)] 25)
  clear G1
  go_wp2_with fail
  refine (S1.out _ G2.out).mono ?_
  rintro e w3 ⟨p, vp, hp, h64, rfl, hs, g⟩
  have G2 := Lib.hid (G2.out.trans g)
  have kD := Lib.hid (kD.out.grown g)
  have HV : Hid (Vl p) := Lib.hid (YV.out p hp h64)
  have HS := Lib.hid hs
  have YQ := Lib.hid (YE.out p hp)
  clear g hs hp h64 YV YE S1
  have kS := Lib.hid (Blk.new w3 #[.int .i64 (a : Int), .int .i64 (a' : Int)] 3)
  have G3 := Lib.hid (G2.out.alloc #[.int .i64 (a : Int), .int .i64 (a' : Int)] 3)
  have kD := Lib.hid (kD.out.alloc (.cells #[.int .i64 (a : Int), .int .i64 (a' : Int)] 3))
  have HS := Lib.hid (HS.out.grown ((Grew.refl w3).alloc #[.int .i64 (a : Int), .int .i64 (a' : Int)] 3))
  clear G2
  go_wp2_with fail
  go_loopw [9, 16, 17, 18, 20, 21, 22, 57] (fun up _ _ _ _ _ _ i wr => ∃ t : Nat, t ≤ 2 ∧ up = .bool true ∧ i = .int .i64 t ∧ Hid (Grew (w3.alloc (.cells #[.int .i64 (a : Int), .int .i64 (a' : Int)] 3)) wr)) (fun _ _ _ _ _ _ _ i _ => 2 - (intOf i).toNat)
  case atStart => exact ⟨0, by omega, rfl, rfl, Lib.hid (Grew.refl _)⟩
  case round =>
    obtain ⟨t, ht, rfl, rfl, GV⟩ := hrel
    by_cases hlt : t < 2
    · have t0 : (0 : Int) ≤ (t : Int) := by omega
      have t1 : (t : Int) < 2 := by omega
      have kS1 := kS.out.grown GV.out
      obtain ⟨k, hk, k64, cS⟩ : ∃ k : Nat, (k = a ∨ k = a') ∧ k < 64 ∧ wr.cell? ⟨w3.heap.size, t, none⟩ = some (.int .i64 (k : Int)) := by
        obtain ⟨⟨c0, c1⟩, _, _⟩ := kS1.two
        by_cases e : t = 0
        · subst e; exact ⟨a, Or.inl rfl, A64.out.1, c0⟩
        · obtain rfl : t = 1 := by omega
          exact ⟨a', Or.inr rfl, A64.out.2, c1⟩
      have lS := kS1.lt
      have kD1 := kD.out.grown GV.out
      obtain ⟨⟨d0, d1⟩, _, _⟩ := kD1.two
      have lD := kD1.lt
      have YK := Lib.hid (YQ.out k hk)
      have C1 := Lib.hid (SK.out k k64)
      have k0 : (0 : Int) ≤ (k : Int) := by omega
      have GG := Lib.hid (Grew.trans G3.out GV.out)
      clear kS1 kD1 hk
      go_wp2_with fail
      refine (C1.out _ GG.out).mono ?_
      rintro e w5 ⟨q, vq, hq, h64, rfl, hs, g⟩
      have G5 := Lib.hid (GV.out.trans g)
      have YX := Lib.hid (YK.out q hq)
      have HP := Lib.hid (HS.out.grown G5.out)
      have q1 : 1 ≤ q.length := hq.1.1
      rcases hs with ⟨rfl, _, _, _⟩ | ⟨b, o, c, rfl, hr⟩
      · exact absurd q1 (by decide)
      have HR := Lib.hid hr
      have q64 : q.length ≤ 64 := h64
      have q3 : ((q.length : Int) == 0) = false := by rw [beq_eq_false_iff_ne]; omega
      clear g hq h64 hr YK C1 cS d0 d1 lS lD
      go_wp2_with fail
      go_loopw [9, 20, 21, 22, 76] (fun up _ _ _ i wz => ∃ m : Nat, m ≤ q.length ∧ up = .bool true ∧ i = .int .i64 m ∧ Hid (Grew w5 wz)) (fun _ _ _ _ i _ => q.length - (intOf i).toNat)
      case atStart => exact ⟨0, by omega, rfl, rfl, Lib.hid (Grew.refl _)⟩
      case round =>
        obtain ⟨m, hm, rfl, rfl, GZ⟩ := hrel
        by_cases hlm : m < q.length
        · obtain ⟨x0, x1⟩ := (HR.out.grown GZ.out).2 m hlm
          have j0 : (0 : Int) ≤ (m : Int) := by omega
          have j1 : (m : Int) < (q.length : Int) := by omega
          have XX := Lib.hid (YX.out m hlm)
          obtain ⟨x, hx⟩ : ∃ x, at' q m = x := ⟨_, rfl⟩
          rw [hx] at x0 x1 XX
          clear hx
          have HZ := Lib.hid ((HP.out.grown GZ.out).grown ((Grew.refl wr).alloc #[.int .i64 x.1, .int .i64 x.2] 23))
          go_wp2_with fail
          refine (has_yes KC.out p x vp _ HZ.out HV.out XX.out.2 XX.out.1).mono ?_
          rintro e w6 ⟨rfl, g⟩
          have G6 := Lib.hid ((GZ.out.alloc #[.int .i64 x.1, .int .i64 x.2] 23).trans g)
          clear g x0 x1
          go_wp2_with fail
          go_roundw
          case rel => exact ⟨m + 1, by omega, rfl, by go_num, G6⟩
          case measure => simp [intOf]; omega
        · obtain rfl : m = q.length := by omega
          go_wp2_with fail
          go_roundw
          case rel => exact ⟨t + 1, by omega, rfl, by go_num, Lib.hid (G5.out.trans GZ.out)⟩
          case measure => simp [intOf]; omega
    · obtain rfl : t = 2 := by omega
      go_wp2_with fail
      go_ret
      exact ⟨rfl, Grew.trans G3.out GV.out⟩
end Ry
end Go.Proofs.YtcihkpjdjenbjaaDoor
