/-
  The law SignOnce.
-/
import Derived.Test.YtfnnmkadmpflhaaDoorSgHead
namespace Go.Proofs.YtfnnmkadmpflhaaDoor
open Go.RowKit Wd
namespace Sg
set_option maxRecDepth 100000

theorem FS_same {x o : Int} (hx : isS x = true) (ho : isS o = true) {l m : List Int} (h : FE x o l = FE x o m) : FS x o l = FS x o m := by
  rw [FE_eq hx ho, FE_eq hx ho] at h
  have e : SE x o l = SE x o m := by omega
  rw [FS_eq hx ho, FS_eq hx ho, e]
/-- P11.5. -/
theorem shown {x o : Int} (hx : isS x = true) (ho : isS o = true) {l m : List Int} {E F S T : Nat} (e1 : FE x o l = E) (e2 : FE x o m = F) (e3 : FS x o l = S) (e4 : FS x o m = T) (h : E ≠ F) :
    E < 1073741789 ∧ F < 1073741789 ∧ S < 1073741789 ∧ T < 1073741789 ∧ ((S + 1073741789 - T) % 1073741789 * pw ((E + 1073741789 - F) % 1073741789) 1073741787 1073741789 % 1073741789 : Nat) = x := by
  have kx := isS_iff.1 hx
  rw [FE_eq hx ho] at e1 e2
  rw [FS_eq hx ho] at e3 e4
  have lE := hc_lt (((pw 4 o.toNat 2147483579 : Nat) : Int) :: ((pw 4 x.toNat 2147483579 : Nat) : Int) :: l)
  have lF := hc_lt (((pw 4 o.toNat 2147483579 : Nat) : Int) :: ((pw 4 x.toNat 2147483579 : Nat) : Int) :: m)
  have f1 : SE x o l = E := by omega
  have f2 : SE x o m = F := by omega
  have lS := Nat.mod_lt (o.toNat + SE x o l * x.toNat) (show 1073741789 > 0 by omega)
  have lT := Nat.mod_lt (o.toNat + SE x o m * x.toNat) (show 1073741789 > 0 by omega)
  have f3 : (o.toNat + SE x o l * x.toNat) % 1073741789 = S := by omega
  have f4 : (o.toNat + SE x o m * x.toNat) % 1073741789 = T := by omega
  rw [f3] at lS
  rw [f4] at lT
  rw [f1] at f3
  rw [f2] at f4
  have lE' : E < 1073741789 := by rw [← f1]; exact lE
  have lF' : F < 1073741789 := by rw [← f2]; exact lF
  have k := once q_pr (by omega) (o := o.toNat) (s := x.toNat) (by omega) lE' lF' h
  rw [f3, f4] at k
  refine ⟨lE', lF', lS, lT, ?_⟩
  have r : 1073741789 - 2 = 1073741787 := rfl
  rw [r] at k
  rw [k]
  omega
theorem nn {x o : Int} (hx : isS x = true) (ho : isS o = true) (l : List Int) : (∃ E : Nat, FE x o l = E ∧ E < 1073741789) ∧ ∃ S : Nat, FS x o l = S ∧ S < 1073741789 :=
  ⟨⟨_, FE_eq hx ho l, hc_lt _⟩, ⟨_, FS_eq hx ho l, Nat.mod_lt _ (by omega)⟩⟩

set_option maxHeartbeats 8000000 in
theorem once_true (key on : Int) (l m : List Int) (v u : Value) (w : World) (hT : Dg.T w) (k0 : 0 ≤ key ∧ key ≤ 18446744073709551615) (o0 : 0 ≤ on ∧ on ≤ 18446744073709551615) (hs : Is w v l) (hl : l.length ≤ 9223372036854775807) (hs2 : Is w u m) (hl2 : m.length ≤ 9223372036854775807) :
    Calls Tryd.prog 7 #[.int .u64 key, .int .u64 on, v, u] w fun e w' => e = .returned (.bool true) ∧ Grew w w' := by
  have L20 : (l.take 20).length ≤ 100000 := by rw [List.length_take]; omega
  have M20 : (m.take 20).length ≤ 100000 := by rw [List.length_take]; omega
  have HD := Lib.hid (head_true w hT)
  have FW := Lib.hid (fun W (g : Grew w W) => few_c l v W (hs.grew g) hl)
  have FM := Lib.hid (fun W (g : Grew w W) => few_c m u W (hs2.grew g) hl2)
  have SK := Lib.hid (fun W => secret_c key k0.1 k0.2 W)
  have SO := Lib.hid (fun W => secret_c on o0.1 o0.2 W)
  have hx := sec_in key
  have ho := sec_in on
  obtain ⟨⟨E, eE, lE⟩, ⟨S, eS, lS⟩⟩ := nn hx ho (l.take 20)
  obtain ⟨⟨F, eF, lF⟩, ⟨T, eT, lT⟩⟩ := nn hx ho (m.take 20)
  have SG : Hid (∀ W u, Grew w W → Is W u (l.take 20) → Calls Tryd.prog 17 #[.int .i64 (sec key), .int .i64 (sec on), u] W fun e w' => e = .returned (.tuple #[.agg #[.int .i64 E, .int .i64 S], .int .i64 0]) ∧ Grew W w') := Lib.hid (fun W u g h => by
    have := sign_c (sec key) (sec on) (l.take 20) u W (hT.grew g) h L20
    rwa [GS_eq hx ho, eE, eS] at this)
  have SM : Hid (∀ W u, Grew w W → Is W u (m.take 20) → Calls Tryd.prog 17 #[.int .i64 (sec key), .int .i64 (sec on), u] W fun e w' => e = .returned (.tuple #[.agg #[.int .i64 F, .int .i64 T], .int .i64 0]) ∧ Grew W w') := Lib.hid (fun W u g h => by
    have := sign_c (sec key) (sec on) (m.take 20) u W (hT.grew g) h M20
    rwa [GS_eq hx ho, eF, eT] at this)
  have SAME : E = F → S = T := fun h => by
    have := FS_same hx ho (l := l.take 20) (m := m.take 20) (by rw [eE, eF, h])
    rw [eS, eT] at this
    omega
  have SHOWN : E ≠ F → ((S + 1073741789 - T) % 1073741789 * pw ((E + 1073741789 - F) % 1073741789) 1073741787 1073741789 % 1073741789 : Nat) = sec key := fun h => (shown hx ho eE eF eS eT h).2.2.2.2
  have PC : ∀ W, Calls Tryd.prog 24 #[.int .i64 ((E + 1073741789 - F) % 1073741789 : Nat), .int .i64 1073741787, .int .i64 1073741789] W fun e w' => e = .returned (.int .i64 ((pw ((E + 1073741789 - F) % 1073741789) 1073741787 1073741789 : Nat) : Int)) ∧ Grew W w' := fun W => rpower_c _ 1073741787 1073741789 W (Nat.mod_lt _ (by omega)) (by omega) (by omega) (by omega)
  have lR := pw_lt ((E + 1073741789 - F) % 1073741789) 1073741787 (show 0 < 1073741789 by omega)
  have kx := isS_iff.1 hx
  obtain ⟨sa, sc, rfl, _⟩ := hs.shape
  obtain ⟨ma, mc, rfl, _⟩ := hs2.shape
  clear hT k0 o0 hs hs2 L20 M20 eE eF eS eT hx ho
  generalize l.take 20 = l' at *
  generalize m.take 20 = m' at *
  generalize sec key = x at *
  generalize sec on = y at *
  by_cases hEF : E = F
  · subst hEF
    obtain rfl := SAME rfl
    clear SAME SHOWN PC lR
    go_enter Tryd.func7, Tryd.ntmps7
    go_wp2_with fail
    refine (HD.out).mono ?_
    rintro e w1 ⟨rfl, g1⟩
    go_wp2_with fail
    refine (SK.out _).mono ?_
    rintro e w2 ⟨rfl, rfl⟩
    go_wp2_with fail
    refine (SO.out _).mono ?_
    rintro e w2 ⟨rfl, rfl⟩
    go_wp2_with fail
    refine (FW.out _ g1).mono ?_
    rintro e w2 ⟨u1, rfl, hu, rfl⟩
    obtain ⟨ua, uc, rfl, _⟩ := hu.shape
    have HU := Lib.hid hu
    clear hu
    go_wp2_with fail
    refine (SG.out _ _ g1 HU.out).mono ?_
    rintro e w3 ⟨rfl, g3'⟩
    have g3 := (Grew.trans g1 g3').alloc #[.int .i64 E, .int .i64 S] 23
    have U3 := Two.new w3 E S 23
    clear g1 g3' HU
    go_wp2_with fail
    refine (SK.out _).mono ?_
    rintro e w2 ⟨rfl, rfl⟩
    go_wp2_with fail
    refine (SO.out _).mono ?_
    rintro e w2 ⟨rfl, rfl⟩
    go_wp2_with fail
    refine (FM.out _ g3).mono ?_
    rintro e w2 ⟨u2, rfl, hu, rfl⟩
    obtain ⟨va, vc, rfl, _⟩ := hu.shape
    have HV := Lib.hid hu
    clear hu
    go_wp2_with fail
    refine (SM.out _ _ g3 HV.out).mono ?_
    rintro e w4 ⟨rfl, g4'⟩
    have g4 := (Grew.trans g3 g4').alloc #[.int .i64 E, .int .i64 S] 23
    obtain ⟨⟨y0, y1⟩, _⟩ := U3.grew U3.lt g4'
    have lt3 : w3.heap.size < w4.heap.size := World.block_lt_of_cell? w4 _ y0
    clear g3 g4' HV U3
    go_wp2_with fail
    go_ret
    exact ⟨by simp, g4⟩
  · have SH := Lib.hid (SHOWN hEF)
    have hne : ((E : Int) == (F : Int)) = false := by rw [beq_eq_false_iff_ne]; omega
    generalize hr : pw ((E + 1073741789 - F) % 1073741789) 1073741787 1073741789 = r at *
    generalize hd : (E + 1073741789 - F) % 1073741789 = d at *
    generalize hu : (S + 1073741789 - T) % 1073741789 = z at *
    have lz : z < 1073741789 := by rw [← hu]; exact Nat.mod_lt _ (by omega)
    have d1 : ((E : Int) - F + 1073741789) % 1073741789 = (d : Int) := by rw [← hd]; omega
    have W1 : IntKind.i64.wrap ((S : Int) - T) = (S : Int) - T := by rw [IntKind.wrap_i64]; omega
    have W2 : IntKind.i64.wrap ((S : Int) - T + 1073741789) = (S : Int) - T + 1073741789 := by rw [IntKind.wrap_i64]; omega
    have W3 : ((S : Int) - T + 1073741789).tmod 1073741789 = (z : Int) := by rw [Int.tmod_eq_emod_of_nonneg (by omega), ← hu]; omega
    have k0 : z * r ≤ 1073741789 * 1073741789 := Nat.mul_le_mul (by omega) (by omega)
    have W4 : IntKind.i64.wrap ((z : Int) * r) = (z : Int) * r := by rw [← Int.natCast_mul, IntKind.wrap_i64]; omega
    have W5 : ((z : Int) * r).tmod 1073741789 = x := by rw [← Int.natCast_mul, Int.tmod_eq_emod_of_nonneg (by omega), ← SH.out, Int.natCast_emod]; rfl
    have HPC : Hid (∀ W, Calls Tryd.prog 24 #[.int .i64 d, .int .i64 1073741787, .int .i64 1073741789] W fun e w' => e = .returned (.int .i64 r) ∧ Grew W w') := Lib.hid PC
    clear SAME SHOWN PC lR hEF hr hd hu k0
    go_enter Tryd.func7, Tryd.ntmps7
    go_wp2_with fail
    refine (HD.out).mono ?_
    rintro e w1 ⟨rfl, g1⟩
    go_wp2_with fail
    refine (SK.out _).mono ?_
    rintro e w2 ⟨rfl, rfl⟩
    go_wp2_with fail
    refine (SO.out _).mono ?_
    rintro e w2 ⟨rfl, rfl⟩
    go_wp2_with fail
    refine (FW.out _ g1).mono ?_
    rintro e w2 ⟨u1, rfl, hu, rfl⟩
    obtain ⟨ua, uc, rfl, _⟩ := hu.shape
    have HU := Lib.hid hu
    clear hu
    go_wp2_with fail
    refine (SG.out _ _ g1 HU.out).mono ?_
    rintro e w3 ⟨rfl, g3'⟩
    have g3 := (Grew.trans g1 g3').alloc #[.int .i64 E, .int .i64 S] 23
    have U3 := Two.new w3 E S 23
    clear g1 g3' HU
    go_wp2_with fail
    refine (SK.out _).mono ?_
    rintro e w2 ⟨rfl, rfl⟩
    go_wp2_with fail
    refine (SO.out _).mono ?_
    rintro e w2 ⟨rfl, rfl⟩
    go_wp2_with fail
    refine (FM.out _ g3).mono ?_
    rintro e w2 ⟨u2, rfl, hu, rfl⟩
    obtain ⟨va, vc, rfl, _⟩ := hu.shape
    have HV := Lib.hid hu
    clear hu
    go_wp2_with fail
    refine (SM.out _ _ g3 HV.out).mono ?_
    rintro e w4 ⟨rfl, g4'⟩
    have g4 := (Grew.trans g3 g4').alloc #[.int .i64 F, .int .i64 T] 23
    obtain ⟨⟨y0, y1⟩, _⟩ := U3.grew U3.lt g4'
    have lt3 : w3.heap.size < w4.heap.size := World.block_lt_of_cell? w4 _ y0
    clear g3 g4' HV U3
    go_wp2_with fail
    obtain ⟨V, hV⟩ : ∃ V, V = w4.alloc (.cells #[.int .i64 F, .int .i64 T] 23) := ⟨_, rfl⟩
    have v0 : V.cell? ⟨w3.heap.size, 1, none⟩ = some (.int .i64 S) := by rw [hV, World.cell?_alloc_lt (h := lt3)]; exact y1
    have v1 : V.cell? ⟨w4.heap.size, 1, none⟩ = some (.int .i64 T) := by rw [hV]; simp [go_sem]
    rw [← hV] at g4 ⊢
    clear hV y0 y1
    have S0 : (V.cell? ⟨w3.heap.size, 1, none⟩ = some (.int .i64 S) ∧ V.cell? ⟨w4.heap.size, 1, none⟩ = some (.int .i64 T)) ∧ Grew V V := ⟨⟨v0, v1⟩, Grew.refl _⟩
    have KD : ∀ W : World, ((W.cell? ⟨w3.heap.size, 1, none⟩ = some (.int .i64 S) ∧ W.cell? ⟨w4.heap.size, 1, none⟩ = some (.int .i64 T)) ∧ Grew V W) → ((W.drew.cell? ⟨w3.heap.size, 1, none⟩ = some (.int .i64 S) ∧ W.drew.cell? ⟨w4.heap.size, 1, none⟩ = some (.int .i64 T)) ∧ Grew V W.drew) := fun W h => ⟨h.1, h.2.drew⟩
    have Q1 : Hid (∀ W : World, ((W.cell? ⟨w3.heap.size, 1, none⟩ = some (.int .i64 S) ∧ W.cell? ⟨w4.heap.size, 1, none⟩ = some (.int .i64 T)) ∧ Grew V W) → Calls Tryd.prog 24 #[.int .i64 d, .int .i64 1073741787, .int .i64 1073741789] W fun e w' => e = .returned (.int .i64 r) ∧ ((w'.cell? ⟨w3.heap.size, 1, none⟩ = some (.int .i64 S) ∧ w'.cell? ⟨w4.heap.size, 1, none⟩ = some (.int .i64 T)) ∧ Grew V w')) :=
      Lib.hid (fun W h => (HPC.out W).mono (by rintro e w' ⟨rfl, g⟩; exact ⟨rfl, ⟨(g.cell (World.block_lt_of_cell? W _ h.1.1)).trans h.1.1, (g.cell (World.block_lt_of_cell? W _ h.1.2)).trans h.1.2⟩, h.2.trans g⟩))
    have HK := Lib.hid KD
    clear v0 v1 HPC KD
    go_region_held3 (fun W => (W.cell? ⟨w3.heap.size, 1, none⟩ = some (.int .i64 S) ∧ W.cell? ⟨w4.heap.size, 1, none⟩ = some (.int .i64 T)) ∧ Grew V W) (first | assumption | exact HK.out _ (by assumption) | exact HK.out _ (HK.out _ (by assumption))) (first
      | (go_at_call 24; refine (Q1.out _ (by assumption)).mono ?_; rintro e w5 ⟨rfl, S5⟩))
    have g5 := Grew.trans g4 S5.2
    go_wp2_with fail
    refine (SK.out _).mono ?_
    rintro e w6 ⟨rfl, rfl⟩
    go_wp2_with fail
    go_ret
    exact ⟨by simp, g5⟩
end Sg
end Go.Proofs.YtfnnmkadmpflhaaDoor
