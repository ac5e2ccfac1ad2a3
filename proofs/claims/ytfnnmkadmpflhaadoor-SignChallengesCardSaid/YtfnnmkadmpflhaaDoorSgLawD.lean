/-
  The law SignChallenges.
-/
import Derived.Test.YtfnnmkadmpflhaaDoorSgHead
import Derived.Test.YtfnnmkadmpflhaaDoorSgRefC
namespace Go.Proofs.YtfnnmkadmpflhaaDoor
open Go.RowKit Wd
namespace Sg
set_option maxRecDepth 100000

/-- append(v, u...) in a region that draws its order. -/
theorem step_ints {ops : Array Oper} {o : Oper} {a : Act} {K : Act → World → Prop} {Q : Exit → Act → World → Prop} {E : Prop} (w : World) (hgd : o.guard = none) (s x : Operand)
    (ho : o.op = .call { callee := .builtin .append, args := #[s, x], argTypes := #[24, 24] }) (B : Nat) (v u : Value) (l m : List Int)
    (hs : a.eval s = v) (hown : Iw B w v l) (hx : a.eval x = u) (hu : Is w u m) (hl : l.length + m.length ≤ 1000000000) (hB : B ≤ w.heap.size)
    (h : ∀ v' w', Iw B w' v' (l ++ m) → w.grownBy w' v.ownBlock → K (a.put o.dst v') w') : if Region.wanted o (yielded ops a.tmps) = true then Oper.wp Tryd.prog o a w K Q else E := by
  have hw : Region.wanted o (yielded ops a.tmps) = true := by simp [Region.wanted, hgd]
  rw [if_pos hw]
  exact wp_ints w s x ho B v u l m hs hown hx hu hl hB h
/-- What the walk keeps behind an append to a slice of the call's own. -/
theorem app_two {V X W : World} {B : Nat} {x y : Int} (h : Two V B x y X) {c : Array Value} {t : TypeId} {v : Value} (e : v.ownBlock = some X.heap.size) (g : (X.alloc (.cells c t)).grownBy W v.ownBlock) : Two V B x y W :=
  h.grew (World.block_lt_of_cell? X _ h.1.1) (Grew.grown ((Grew.refl X).alloc c t) g (fun k hk => by rw [e] at hk; cases hk; exact Nat.le_refl _))
/-- A number of a signature that is changed. -/
theorem chg (E : Nat) (_hE : E < 1073741789) (a : Int) : ∃ (t1 t2 : Int) (c : Nat), a.tmod 1073741789 = t1 ∧ -1073741789 < t1 ∧ t1 < 1073741789 ∧ ((E : Int) + t1).tmod 1073741789 = t2 ∧ -1073741789 < t2 ∧ t2 < 1073741789 ∧ (t2 + 1073741789) % 1073741789 = c ∧ (t2 + 1073741789).tmod 1073741789 = c ∧ c < 1073741789 := by
  have b : ∀ z : Int, -1073741789 < z.tmod 1073741789 ∧ z.tmod 1073741789 < 1073741789 := fun z => by
    have h1 := Int.lt_tmod_of_pos z (b := 1073741789) (by omega)
    have h2 := Int.tmod_lt_of_pos z (b := 1073741789) (by omega)
    exact ⟨by omega, h2⟩
  refine ⟨_, _, ((((E : Int) + a.tmod 1073741789).tmod 1073741789 + 1073741789) % 1073741789).toNat, rfl, (b _).1, (b _).2, rfl, (b _).1, (b _).2, ?_, ?_, ?_⟩
  · omega
  · have := (b ((E : Int) + a.tmod 1073741789)).1
    rw [Int.tmod_eq_emod_of_nonneg (by omega)]
    omega
  · omega

set_option maxHeartbeats 8000000 in
theorem challenges_true (key on other aE aS : Int) (l m : List Int) (v u : Value) (w : World) (hT : Dg.T w) (k0 : 0 ≤ key ∧ key ≤ 18446744073709551615) (o0 : 0 ≤ on ∧ on ≤ 18446744073709551615) (j0 : 0 ≤ other ∧ other ≤ 18446744073709551615)
    (hs : Is w v l) (hl : l.length ≤ 9223372036854775807) (hs2 : Is w u m) (hl2 : m.length ≤ 9223372036854775807) :
    Calls Tryd.prog 6 #[.int .u64 key, .int .u64 on, .int .u64 other, v, u, .agg #[.int .i64 aE, .int .i64 aS]] w fun e w' => e = .returned (.bool true) ∧ Grew w w' := by
  have L20 : (l.take 20).length ≤ 100000 := by rw [List.length_take]; omega
  have M20 : (m.take 20).length ≤ 100000 := by rw [List.length_take]; omega
  have W0 : Grew w (w.alloc (.cells #[.int .i64 aE, .int .i64 aS] 23)) := (Grew.refl w).alloc _ _
  have HD := Lib.hid (head_true (w.alloc (.cells #[.int .i64 aE, .int .i64 aS] 23)) (hT.grew W0))
  have FW := Lib.hid (fun W (g : Grew w W) => few_c l v W (hs.grew g) hl)
  have FM := Lib.hid (fun W (g : Grew w W) => few_c m u W (hs2.grew g) hl2)
  have SK := Lib.hid (fun W => secret_c key k0.1 k0.2 W)
  have SO := Lib.hid (fun W => secret_c on o0.1 o0.2 W)
  have SJ := Lib.hid (fun W => secret_c other j0.1 j0.2 W)
  have hx := sec_in key
  have ho := sec_in on
  have hj := sec_in other
  obtain ⟨E, eE, lE⟩ : ∃ E : Nat, FE (sec key) (sec on) (l.take 20) = E ∧ E < 1073741789 := ⟨_, FE_eq hx ho _, hc_lt _⟩
  obtain ⟨S, eS, lS⟩ : ∃ S : Nat, FS (sec key) (sec on) (l.take 20) = S ∧ S < 1073741789 := ⟨_, FS_eq hx ho _, Nat.mod_lt _ (by omega)⟩
  have SG : Hid (∀ W u, Grew w W → Is W u (l.take 20) → Calls Tryd.prog 17 #[.int .i64 (sec key), .int .i64 (sec on), u] W fun e w' => e = .returned (.tuple #[.agg #[.int .i64 E, .int .i64 S], .int .i64 0]) ∧ Grew W w') := Lib.hid (fun W u g h => by
    have := sign_c (sec key) (sec on) (l.take 20) u W (hT.grew g) h L20
    rwa [GS_eq hx ho, eE, eS] at this)
  obtain ⟨A, eA⟩ : ∃ A : Nat, FP (sec key) = A := ⟨_, FP_eq hx⟩
  obtain ⟨B, eB⟩ : ∃ B : Nat, FP (sec other) = B := ⟨_, FP_eq hj⟩
  have mA := FP_in hx
  have mB := FP_in hj
  rw [eA] at mA
  rw [eB] at mB
  have PK : Hid (∀ W, Calls Tryd.prog 15 #[.int .i64 (sec key)] W fun e w' => e = .returned (.tuple #[.int .i64 A, .int .i64 0]) ∧ Grew W w') := Lib.hid (fun W => by have := public_c (sec key) W; rwa [GP_eq hx, eA] at this)
  have PJ : Hid (∀ W, Calls Tryd.prog 15 #[.int .i64 (sec other)] W fun e w' => e = .returned (.tuple #[.int .i64 B, .int .i64 0]) ∧ Grew W w') := Lib.hid (fun W => by have := public_c (sec other) W; rwa [GP_eq hj, eB] at this)
  obtain ⟨t1, t2, c, q1, q2, q3, q4, q5, q6, q7, q8, lc⟩ := chg E lE aE
  obtain ⟨s1, s2, d, r1, r2, r3, r4, r5, r6, r7, r8, ld⟩ := chg S lS aS
  have verify : ∀ (P E S : Nat) (L : List Int), isM P = true → E < 1073741789 → S < 1073741789 → L.length ≤ 100000 → ∀ W u, Grew w W → Is W u L → Calls Tryd.prog 19 #[.int .i64 P, .agg #[.int .i64 E, .int .i64 S], u] W fun e w' => e = .returned (.tuple #[.bool (vr P E S L), .int .i64 0]) ∧ Grew W w' := fun P E S L hP hE hS hL W u g h => by
    have := verify_c P E S L u W (hT.grew g) h hL
    rwa [FV_eq hP (isE_of hE) (isE_of hS), GV_eq hP (isE_of hE) (isE_of hS)] at this
  have kA := isM_iff.1 mA
  have kB := isM_iff.1 mB
  have V1 := Lib.hid (verify A c d (l.take 20) mA lc ld L20)
  have BK1 := fun W => R.back_c A c d W (by omega) lc ld
  have CH1 := fun W u (h : Is W u (((bk A c d : Nat) : Int) :: (A : Int) :: (l.take 20))) => R.challenge_c _ u W h (by simp; omega)
  have B1 : bk A c d < 2147483579 := bk_lt _ _ _
  have Z1 : ((hc ((bk A c d : Int) :: (A : Int) :: (l.take 20)) : Int) == (c : Int)) = vr A c d (l.take 20) := rfl
  have V2 := Lib.hid (verify A E S (m.take 20) mA lE lS M20)
  have BK2 := fun W => R.back_c A E S W (by omega) lE lS
  have CH2 := fun W u (h : Is W u (((bk A E S : Nat) : Int) :: (A : Int) :: (m.take 20))) => R.challenge_c _ u W h (by simp; omega)
  have B2 : bk A E S < 2147483579 := bk_lt _ _ _
  have Z2 : ((hc ((bk A E S : Int) :: (A : Int) :: (m.take 20)) : Int) == (E : Int)) = vr A E S (m.take 20) := rfl
  have V3 := Lib.hid (verify B E S (l.take 20) mB lE lS L20)
  have BK3 := fun W => R.back_c B E S W (by omega) lE lS
  have CH3 := fun W u (h : Is W u (((bk B E S : Nat) : Int) :: (B : Int) :: (l.take 20))) => R.challenge_c _ u W h (by simp; omega)
  have B3 : bk B E S < 2147483579 := bk_lt _ _ _
  have Z3 : ((hc ((bk B E S : Int) :: (B : Int) :: (l.take 20)) : Int) == (E : Int)) = vr B E S (l.take 20) := rfl
  have lA : I64 A := by unfold I64; omega
  have lB : I64 B := by unfold I64; omega
  obtain ⟨sa, sc, rfl, _⟩ := hs.shape
  obtain ⟨ma, mc, rfl, _⟩ := hs2.shape
  have T0 := Two.new w aE aS 23
  clear hT k0 o0 j0 hs hs2 hx ho hj eE eS eA eB mA mB kA kB verify
  generalize hc ((bk A c d : Int) :: (A : Int) :: (l.take 20)) = h1 at *
  generalize vr A c d (l.take 20) = p1 at *
  generalize bk A c d = b1 at *
  generalize hc ((bk A E S : Int) :: (A : Int) :: (m.take 20)) = h2 at *
  generalize vr A E S (m.take 20) = p2 at *
  generalize bk A E S = b2 at *
  generalize hc ((bk B E S : Int) :: (B : Int) :: (l.take 20)) = h3 at *
  generalize vr B E S (l.take 20) = p3 at *
  generalize bk B E S = b3 at *
  generalize hL : l.take 20 = l' at *
  generalize hM : m.take 20 = m' at *
  generalize sec key = x at *
  generalize sec on = y at *
  generalize sec other = z at *
  have HLL := Lib.hid L20
  have HLM := Lib.hid M20
  clear hL hM L20 M20
  go_enter Tryd.func6, Tryd.ntmps6
  go_wp2_with fail
  refine (HD.out).mono ?_
  rintro e w1 ⟨rfl, g1'⟩
  have T1 := T0.grew T0.lt g1'
  have g1 := Grew.trans W0 g1'
  clear g1' T0
  go_wp2_with fail
  refine (FW.out _ g1).mono ?_
  rintro e w2 ⟨u1, rfl, hu, rfl⟩
  obtain ⟨ua, uc, rfl, _⟩ := hu.shape
  have H1 := Lib.hid hu
  clear hu
  go_wp2_with fail
  refine (FM.out _ g1).mono ?_
  rintro e w2 ⟨u2, rfl, hu, rfl⟩
  obtain ⟨va, vc, rfl, _⟩ := hu.shape
  have I1 := Lib.hid hu
  clear hu
  go_wp2_with fail
  refine (SK.out _).mono ?_
  rintro e w2 ⟨rfl, rfl⟩
  go_wp2_with fail
  refine (PK.out _).mono ?_
  rintro e w2 ⟨rfl, g2'⟩
  have g2 := Grew.trans g1 g2'
  have H2 := Lib.hid (H1.out.grew g2')
  have I2 := Lib.hid (I1.out.grew g2')
  have T2 := T1.grew T1.lt g2'
  clear g1 g2' H1 I1 T1
  go_wp2_with fail
  refine (SJ.out _).mono ?_
  rintro e w3 ⟨rfl, rfl⟩
  go_wp2_with fail
  refine (PJ.out _).mono ?_
  rintro e w3 ⟨rfl, g3'⟩
  have g3 := Grew.trans g2 g3'
  have H3 := Lib.hid (H2.out.grew g3')
  have I3 := Lib.hid (I2.out.grew g3')
  have T3 := T2.grew T2.lt g3'
  clear g2 g3' H2 I2 T2
  go_wp2_with fail
  refine (SK.out _).mono ?_
  rintro e w4 ⟨rfl, rfl⟩
  go_wp2_with fail
  refine (SO.out _).mono ?_
  rintro e w4 ⟨rfl, rfl⟩
  go_wp2_with fail
  refine (SG.out _ _ g3 H3.out).mono ?_
  rintro e w4 ⟨rfl, g4'⟩
  have k4 := g4'.alloc #[.int .i64 E, .int .i64 S] 23
  have g4 := Grew.trans g3 k4
  have H4 := Lib.hid (H3.out.grew k4)
  have I4 := Lib.hid (I3.out.grew k4)
  have T4 := T3.grew T3.lt g4'
  have U4 := Two.new w4 E S 23
  obtain ⟨⟨x0, x1⟩, _⟩ := T4
  have lt4 : w.heap.size < w4.heap.size := World.block_lt_of_cell? w4 _ x0
  clear g3 g4' H3 I3 T3
  go_wp2_with fail
  have k5 : Grew (w4.alloc (.cells #[.int .i64 E, .int .i64 S] 23)) ((w4.alloc (.cells #[.int .i64 E, .int .i64 S] 23)).alloc (.cells #[.int .i64 c, .int .i64 d] 23)) := (Grew.refl _).alloc _ _
  have g5 := Grew.trans g4 k5
  have H5 := Lib.hid (H4.out.grew k5)
  have I5 := Lib.hid (I4.out.grew k5)
  have U5 := U4.grew U4.lt k5
  have D5 := Two.new (w4.alloc (.cells #[.int .i64 E, .int .i64 S] 23)) c d 23
  rw [World.size_alloc] at D5
  clear g4 k4 k5 H4 I4 U4
  refine (V1.out _ _ g5 H5.out).mono ?_
  rintro e w6 ⟨rfl, g6'⟩
  have g6 := Grew.trans g5 g6'
  have H6 := Lib.hid (H5.out.grew g6')
  have I6 := Lib.hid (I5.out.grew g6')
  have U6 := U5.grew U5.lt g6'
  have D6 := D5.grew D5.lt g6'
  obtain ⟨⟨y0, y1⟩, _⟩ := U6
  clear g5 g6' H5 I5 U5 D5
  go_wp2_with fail
  refine (V2.out _ _ g6 I6.out).mono ?_
  rintro e w7 ⟨rfl, g7'⟩
  have g7 := Grew.trans g6 g7'
  have H7 := Lib.hid (H6.out.grew g7')
  have I7 := Lib.hid (I6.out.grew g7')
  have D7 := D6.grew D6.lt g7'
  have lt6 : w4.heap.size < w6.heap.size := World.block_lt_of_cell? w6 _ y0
  have z0 : w7.cell? ⟨w4.heap.size, 0, none⟩ = some (.int .i64 E) := (g7'.cell lt6).trans y0
  have z1 : w7.cell? ⟨w4.heap.size, 1, none⟩ = some (.int .i64 S) := (g7'.cell lt6).trans y1
  clear g6 g7' H6 I6 D6 y0 y1
  go_wp2_with fail
  refine (V3.out _ _ g7 H7.out).mono ?_
  rintro e w8 ⟨rfl, g8'⟩
  have g8 := Grew.trans g7 g8'
  have H8 := Lib.hid (H7.out.grew g8')
  have I8 := Lib.hid (I7.out.grew g8')
  have D8 := D7.grew D7.lt g8'
  have lt7 : w4.heap.size < w7.heap.size := World.block_lt_of_cell? w7 _ z0
  have y0 : w8.cell? ⟨w4.heap.size, 0, none⟩ = some (.int .i64 E) := (g8'.cell lt7).trans z0
  have y1 : w8.cell? ⟨w4.heap.size, 1, none⟩ = some (.int .i64 S) := (g8'.cell lt7).trans z1
  have HD8 := Lib.hid D8.1
  clear g7 g8' H7 I7 D7 z0 z1 D8 V1 V2 V3
  go_wp2_with fail
  have S1 : (w8.cell? ⟨w4.heap.size + 1, 0, none⟩ = some (.int .i64 c) ∧ w8.cell? ⟨w4.heap.size + 1, 1, none⟩ = some (.int .i64 d)) ∧ Grew w8 w8 := ⟨HD8.out, Grew.refl _⟩
  have QB1 : Hid (∀ W : World, ((W.cell? ⟨w4.heap.size + 1, 0, none⟩ = some (.int .i64 c) ∧ W.cell? ⟨w4.heap.size + 1, 1, none⟩ = some (.int .i64 d)) ∧ Grew w8 W) → Calls Tryd.prog 23 #[.int .i64 A, .agg #[.int .i64 c, .int .i64 d]] W fun e w' => e = .returned (.int .i64 b1) ∧ ((w'.cell? ⟨w4.heap.size + 1, 0, none⟩ = some (.int .i64 c) ∧ w'.cell? ⟨w4.heap.size + 1, 1, none⟩ = some (.int .i64 d)) ∧ Grew w8 w')) :=
    Lib.hid (fun W h => (BK1 W).mono (by rintro e w' ⟨rfl, g⟩; exact ⟨rfl, Two.grew h (Two.lt h) g⟩))
  have QC1 : Hid (∀ (W : World) u, Is W u ((b1 : Int) :: (A : Int) :: l') → ((W.cell? ⟨w4.heap.size + 1, 0, none⟩ = some (.int .i64 c) ∧ W.cell? ⟨w4.heap.size + 1, 1, none⟩ = some (.int .i64 d)) ∧ Grew w8 W) → Calls Tryd.prog 22 #[u] W fun e w' => e = .returned (.int .i64 h1) ∧ ((w'.cell? ⟨w4.heap.size + 1, 0, none⟩ = some (.int .i64 c) ∧ w'.cell? ⟨w4.heap.size + 1, 1, none⟩ = some (.int .i64 d)) ∧ Grew w8 w')) :=
    Lib.hid (fun W u k h => (CH1 W u k).mono (by rintro e w' ⟨rfl, g⟩; exact ⟨rfl, Two.grew h (Two.lt h) g⟩))
  have OK1 : Hid (Oki ((b1 : Int) :: (A : Int) :: l')) := Lib.hid (Oki.cons (by unfold I64; omega) (Oki.cons lA H8.out.2))
  have LN1 : Hid ([(b1 : Int), (A : Int)].length + l'.length ≤ 1000000000) := Lib.hid (by have := HLL.out; simp; omega)
  clear BK1 CH1
  go_region_held3 (fun W => (W.cell? ⟨w4.heap.size + 1, 0, none⟩ = some (.int .i64 c) ∧ W.cell? ⟨w4.heap.size + 1, 1, none⟩ = some (.int .i64 d)) ∧ Grew w8 W) (first | assumption | exact Two.drew (by assumption) | exact Two.alloc (by assumption) _ _) (first
    | (go_at_call 23; refine (QB1.out _ (by assumption)).mono ?_; rintro e x1 ⟨rfl, P1⟩)
    | (go_at_call 22; refine (QC1.out _ _ A1.out R1).mono ?_; rintro e w9 ⟨rfl, Y1⟩)
    | ((refine step_ints _ rfl (.tmp 112) (.tmp 113) rfl x1.heap.size _ _ [(b1 : Int), (A : Int)] l' rfl ?_ rfl ?_ LN1.out ?_ ?_
        · exact own_two x1 _ _ (Nat.le_refl _)
        · exact H8.out.grew (Grew.alloc P1.2 _ _)
        · (simp)
        intro v' w' own' gr'
        have R1 : (w'.cell? ⟨w4.heap.size + 1, 0, none⟩ = some (.int .i64 c) ∧ w'.cell? ⟨w4.heap.size + 1, 1, none⟩ = some (.int .i64 d)) ∧ Grew w8 w' := app_two P1 rfl gr'
        have A1 := Lib.hid (own'.is OK1.out)
        obtain ⟨xa, xc, rfl, _⟩ := A1.out.shape
        clear own' gr')))
  have g9 := Grew.trans g8 Y1.2
  have I9 := Lib.hid (I8.out.grew Y1.2)
  have H9 := Lib.hid (H8.out.grew Y1.2)
  have lt8 : w4.heap.size < w8.heap.size := World.block_lt_of_cell? w8 _ y0
  have v0 : w9.cell? ⟨w4.heap.size, 0, none⟩ = some (.int .i64 E) := (Y1.2.cell lt8).trans y0
  have v1 : w9.cell? ⟨w4.heap.size, 1, none⟩ = some (.int .i64 S) := (Y1.2.cell lt8).trans y1
  have HS1 := Lib.hid Y1.2
  clear g8 H8 I8 y0 y1 lt8 S1 QB1 QC1 OK1 LN1 R1 A1 P1 HD8 Y1
  go_wp2_with fail
  have S2 : (w9.cell? ⟨w4.heap.size, 0, none⟩ = some (.int .i64 E) ∧ w9.cell? ⟨w4.heap.size, 1, none⟩ = some (.int .i64 S)) ∧ Grew w9 w9 := ⟨⟨v0, v1⟩, Grew.refl _⟩
  have QB2 : Hid (∀ W : World, ((W.cell? ⟨w4.heap.size, 0, none⟩ = some (.int .i64 E) ∧ W.cell? ⟨w4.heap.size, 1, none⟩ = some (.int .i64 S)) ∧ Grew w9 W) → Calls Tryd.prog 23 #[.int .i64 A, .agg #[.int .i64 E, .int .i64 S]] W fun e w' => e = .returned (.int .i64 b2) ∧ ((w'.cell? ⟨w4.heap.size, 0, none⟩ = some (.int .i64 E) ∧ w'.cell? ⟨w4.heap.size, 1, none⟩ = some (.int .i64 S)) ∧ Grew w9 w')) :=
    Lib.hid (fun W h => (BK2 W).mono (by rintro e w' ⟨rfl, g⟩; exact ⟨rfl, Two.grew h (Two.lt h) g⟩))
  have QC2 : Hid (∀ (W : World) u, Is W u ((b2 : Int) :: (A : Int) :: m') → ((W.cell? ⟨w4.heap.size, 0, none⟩ = some (.int .i64 E) ∧ W.cell? ⟨w4.heap.size, 1, none⟩ = some (.int .i64 S)) ∧ Grew w9 W) → Calls Tryd.prog 22 #[u] W fun e w' => e = .returned (.int .i64 h2) ∧ ((w'.cell? ⟨w4.heap.size, 0, none⟩ = some (.int .i64 E) ∧ w'.cell? ⟨w4.heap.size, 1, none⟩ = some (.int .i64 S)) ∧ Grew w9 w')) :=
    Lib.hid (fun W u k h => (CH2 W u k).mono (by rintro e w' ⟨rfl, g⟩; exact ⟨rfl, Two.grew h (Two.lt h) g⟩))
  have OK2 : Hid (Oki ((b2 : Int) :: (A : Int) :: m')) := Lib.hid (Oki.cons (by unfold I64; omega) (Oki.cons lA I9.out.2))
  have LN2 : Hid ([(b2 : Int), (A : Int)].length + m'.length ≤ 1000000000) := Lib.hid (by have := HLM.out; simp; omega)
  clear BK2 CH2
  go_region_held3 (fun W => (W.cell? ⟨w4.heap.size, 0, none⟩ = some (.int .i64 E) ∧ W.cell? ⟨w4.heap.size, 1, none⟩ = some (.int .i64 S)) ∧ Grew w9 W) (first | assumption | exact Two.drew (by assumption) | exact Two.alloc (by assumption) _ _) (first
    | (go_at_call 23; refine (QB2.out _ (by assumption)).mono ?_; rintro e x2 ⟨rfl, P2⟩)
    | (go_at_call 22; refine (QC2.out _ _ A2.out R2).mono ?_; rintro e w10 ⟨rfl, Y2⟩)
    | ((refine step_ints _ rfl (.tmp 123) (.tmp 124) rfl x2.heap.size _ _ [(b2 : Int), (A : Int)] m' rfl ?_ rfl ?_ LN2.out ?_ ?_
        · exact own_two x2 _ _ (Nat.le_refl _)
        · exact I9.out.grew (Grew.alloc P2.2 _ _)
        · (simp)
        intro v' w' own' gr'
        have R2 : (w'.cell? ⟨w4.heap.size, 0, none⟩ = some (.int .i64 E) ∧ w'.cell? ⟨w4.heap.size, 1, none⟩ = some (.int .i64 S)) ∧ Grew w9 w' := app_two P2 rfl gr'
        have A2 := Lib.hid (own'.is OK2.out)
        obtain ⟨xa, xc, rfl, _⟩ := A2.out.shape
        clear own' gr')))
  have g10 := Grew.trans g9 Y2.2
  have H10 := Lib.hid (H9.out.grew Y2.2)
  have HY2 := Lib.hid Y2.1
  clear g9 H9 I9 S2 QB2 QC2 OK2 LN2 R2 A2 P2 HS1 v0 v1 Y2
  go_wp2_with fail
  have S3 : (w10.cell? ⟨w4.heap.size, 0, none⟩ = some (.int .i64 E) ∧ w10.cell? ⟨w4.heap.size, 1, none⟩ = some (.int .i64 S)) ∧ Grew w10 w10 := ⟨HY2.out, Grew.refl _⟩
  have QB3 : Hid (∀ W : World, ((W.cell? ⟨w4.heap.size, 0, none⟩ = some (.int .i64 E) ∧ W.cell? ⟨w4.heap.size, 1, none⟩ = some (.int .i64 S)) ∧ Grew w10 W) → Calls Tryd.prog 23 #[.int .i64 B, .agg #[.int .i64 E, .int .i64 S]] W fun e w' => e = .returned (.int .i64 b3) ∧ ((w'.cell? ⟨w4.heap.size, 0, none⟩ = some (.int .i64 E) ∧ w'.cell? ⟨w4.heap.size, 1, none⟩ = some (.int .i64 S)) ∧ Grew w10 w')) :=
    Lib.hid (fun W h => (BK3 W).mono (by rintro e w' ⟨rfl, g⟩; exact ⟨rfl, Two.grew h (Two.lt h) g⟩))
  have QC3 : Hid (∀ (W : World) u, Is W u ((b3 : Int) :: (B : Int) :: l') → ((W.cell? ⟨w4.heap.size, 0, none⟩ = some (.int .i64 E) ∧ W.cell? ⟨w4.heap.size, 1, none⟩ = some (.int .i64 S)) ∧ Grew w10 W) → Calls Tryd.prog 22 #[u] W fun e w' => e = .returned (.int .i64 h3) ∧ ((w'.cell? ⟨w4.heap.size, 0, none⟩ = some (.int .i64 E) ∧ w'.cell? ⟨w4.heap.size, 1, none⟩ = some (.int .i64 S)) ∧ Grew w10 w')) :=
    Lib.hid (fun W u k h => (CH3 W u k).mono (by rintro e w' ⟨rfl, g⟩; exact ⟨rfl, Two.grew h (Two.lt h) g⟩))
  have OK3 : Hid (Oki ((b3 : Int) :: (B : Int) :: l')) := Lib.hid (Oki.cons (by unfold I64; omega) (Oki.cons lB H10.out.2))
  have LN3 : Hid ([(b3 : Int), (B : Int)].length + l'.length ≤ 1000000000) := Lib.hid (by have := HLL.out; simp; omega)
  clear BK3 CH3
  go_region_held3 (fun W => (W.cell? ⟨w4.heap.size, 0, none⟩ = some (.int .i64 E) ∧ W.cell? ⟨w4.heap.size, 1, none⟩ = some (.int .i64 S)) ∧ Grew w10 W) (first | assumption | exact Two.drew (by assumption) | exact Two.alloc (by assumption) _ _) (first
    | (go_at_call 23; refine (QB3.out _ (by assumption)).mono ?_; rintro e x3 ⟨rfl, P3⟩)
    | (go_at_call 22; refine (QC3.out _ _ A3.out R3).mono ?_; rintro e w11 ⟨rfl, Y3⟩)
    | ((refine step_ints _ rfl (.tmp 134) (.tmp 135) rfl x3.heap.size _ _ [(b3 : Int), (B : Int)] l' rfl ?_ rfl ?_ LN3.out ?_ ?_
        · exact own_two x3 _ _ (Nat.le_refl _)
        · exact H10.out.grew (Grew.alloc P3.2 _ _)
        · (simp)
        intro v' w' own' gr'
        have R3 : (w'.cell? ⟨w4.heap.size, 0, none⟩ = some (.int .i64 E) ∧ w'.cell? ⟨w4.heap.size, 1, none⟩ = some (.int .i64 S)) ∧ Grew w10 w' := app_two P3 rfl gr'
        have A3 := Lib.hid (own'.is OK3.out)
        obtain ⟨xa, xc, rfl, _⟩ := A3.out.shape
        clear own' gr')))
  have g11 := Grew.trans g10 Y3.2
  clear S3 QB3 QC3 OK3 LN3 R3 A3 P3 HY2 Y3
  go_wp2_with fail
  go_ret
  exact ⟨by simp, g11⟩
end Sg
end Go.Proofs.YtfnnmkadmpflhaaDoor
