/-
  The law TideLeast, where there is little.
-/
import Derived.Test.YtpiajdahmcelnaaLTdLb
namespace Go.Proofs.Ytpiajdahmcelnaa
open Go.RowKit Hl
namespace Td
set_option maxRecDepth 100000
set_option maxHeartbeats 64000000 in
theorem least_ok (K : Hl.Code) (t : Ed) (u : Value) (lo hi : Pt) (c d : Int) (w : World) (hs : Rs w u t.l) (hl : t.l.length ≤ 9223372036854775807) (hu : Usb t lo hi c d) (hsm : hi.1 - lo.1 ≤ 20000 ∧ hi.2 - lo.2 ≤ 20000 ∧ d - c ≤ 7200) :
    Calls Try.prog 4 #[tv t u, .agg #[.int .i64 lo.1, .int .i64 lo.2], .agg #[.int .i64 hi.1, .int .i64 hi.2], .int .i64 c, .int .i64 d] w fun e w' => e = .returned (.bool true) ∧ Grew w w' := by
  have hb := hu.ok
  have hb0 : BOk t lo lo c c := ⟨hb.1, ⟨hb.2.1.1, hb.2.1.1, Int.le_refl _, Int.le_refl _⟩, ⟨hb.2.2.1, Int.le_refl _, by have := hb.2.2.2; omega⟩⟩
  have HD : Hid (∀ W, Calls Try.prog 9 #[] W fun e w' => e = .returned (.bool true) ∧ Grew W w') := Lib.hid (fun W => head_true K W)
  have UC : Hid (∀ W, Grew w W → Calls Try.prog 10 #[tv t u, .agg #[.int .i64 lo.1, .int .i64 lo.2], .agg #[.int .i64 hi.1, .int .i64 hi.2], .int .i64 c, .int .i64 d] W fun e w' => e = .returned (.bool true) ∧ Grew W w') := Lib.hid (fun W g => by
    have h := usable_c t u lo hi c d W (hs.grew g) hl
    rwa [decide_eq_true hu] at h)
  have BL : Hid (∀ W, Grew w W → Calls Try.prog 11 #[tv t u, .agg #[.int .i64 lo.1, .int .i64 lo.2], .agg #[.int .i64 lo.1, .int .i64 lo.2], .int .i64 c, .int .i64 c] W fun e w' => e = .returned (.tuple #[.agg #[.int .i64 0, .int .i64 0, .int .i64 0, .int .i64 (OvB t lo lo c c).a, .int .i64 (OvB t lo lo c c).b, .int .i64 (OvB t lo lo c c).c, .int .i64 (OvB t lo lo c c).d, .int .i64 (OvB t lo lo c c).e, .int .i64 (OvB t lo lo c c).f], .int .i64 0]) ∧ Grew W w') := Lib.hid (fun W g => by
    have h := bound_c K t u lo lo c c W (hs.grew g) hl
    rw [bA_yes hb0] at h
    exact h)
  have BF : Hid (∀ W, Grew w W → Calls Try.prog 11 #[tv t u, .agg #[.int .i64 lo.1, .int .i64 lo.2], .agg #[.int .i64 hi.1, .int .i64 hi.2], .int .i64 c, .int .i64 d] W fun e w' => e = .returned (.tuple #[.agg #[.int .i64 0, .int .i64 0, .int .i64 0, .int .i64 (OvB t lo hi c d).a, .int .i64 (OvB t lo hi c d).b, .int .i64 (OvB t lo hi c d).c, .int .i64 (OvB t lo hi c d).d, .int .i64 (OvB t lo hi c d).e, .int .i64 (OvB t lo hi c d).f], .int .i64 0]) ∧ Grew W w') := Lib.hid (fun W g => by
    have h := bound_c K t u lo hi c d W (hs.grew g) hl
    rw [bA_yes hb] at h
    exact h)
  have AL : Hid (∀ W, Grew w W → Calls Try.prog 12 #[tv t u, .agg #[.int .i64 lo.1, .int .i64 lo.2], .int .i64 c] W fun e w' => e = .returned (.tuple #[.agg #[.int .i64 0, .int .i64 0, .int .i64 0, .int .i64 (OvB t lo lo c c).a, .int .i64 (OvB t lo lo c c).b, .int .i64 (OvB t lo lo c c).c, .int .i64 (OvB t lo lo c c).d, .int .i64 (OvB t lo lo c c).e, .int .i64 (OvB t lo lo c c).f], .int .i64 0]) ∧ Grew W w') := Lib.hid (fun W g => by
    have h := at_c K t u lo c W (hs.grew g) hl
    rw [bA_yes hb0] at h
    exact h)
  have AT : Hid (∀ (i j s : Int) (W : World), bk lo.1 ≤ i → i ≤ bk hi.1 → bk lo.2 ≤ j → j ≤ bk hi.2 → sl t.z c ≤ s → s ≤ sl t.z d → Grew w W → Calls Try.prog 12 #[tv t u, .agg #[.int .i64 (co lo.1 i), .int .i64 (co lo.2 j)], .int .i64 (tm t.z c s)] W fun e w' => e = .returned (.tuple #[.agg #[.int .i64 0, .int .i64 0, .int .i64 0, .int .i64 (Hd t i j s).a, .int .i64 (Hd t i j s).b, .int .i64 (Hd t i j s).c, .int .i64 (Hd t i j s).d, .int .i64 (Hd t i j s).e, .int .i64 (Hd t i j s).f], .int .i64 0]) ∧ Grew W w') := Lib.hid (fun i j s W i0 i1 j0 j1 s0 s1 g => by
    have xx := co_ge i0
    have xy := (co_le i0 hb.2.1.2.2.1).2 i1
    have yx := co_ge j0
    have yy := (co_le j0 hb.2.1.2.2.2).2 j1
    have zx := tm_ge s0
    have zy := (tm_le s0 hb.2.2.2.1).2 s1
    obtain ⟨⟨⟨⟨a0, a1⟩, ⟨a2, a3⟩⟩, ⟨⟨b0, b1⟩, ⟨b2, b3⟩⟩, o1, o2⟩, c0, c1, c2⟩ := hb.2
    have hp : Plc (co lo.1 i, co lo.2 j) := ⟨⟨by simp only; omega, by simp only; omega⟩, ⟨by simp only; omega, by simp only; omega⟩⟩
    have hk : BOk t (co lo.1 i, co lo.2 j) (co lo.1 i, co lo.2 j) (tm t.z c s) (tm t.z c s) := ⟨hb.1, ⟨hp, hp, Int.le_refl _, Int.le_refl _⟩, ⟨by omega, Int.le_refl _, by omega⟩⟩
    have h := at_c K t u (co lo.1 i, co lo.2 j) (tm t.z c s) W (hs.grew g) hl
    rw [bA_yes hk] at h
    have e : OvB t (co lo.1 i, co lo.2 j) (co lo.1 i, co lo.2 j) (tm t.z c s) (tm t.z c s) = Hd t i j s := by
      unfold OvB
      simp only [co_bk i0, co_bk j0, tm_sl s0]
      exact Ov_one t i j s
    simp only [e] at h
    exact h)
  have BX : Hid (∀ (i : Int) (W : World), bk lo.1 ≤ i → i ≤ bk hi.1 → Calls Try.prog 16 #[.int .i64 (co lo.1 i)] W fun e w' => e = .returned (.int .i64 i) ∧ W = w') := Lib.hid (fun i W i0 i1 => by
    have xx := co_ge i0
    have xy := (co_le i0 hb.2.1.2.2.1).2 i1
    obtain ⟨⟨⟨a0, a1⟩, ⟨a2, a3⟩⟩, ⟨⟨b0, b1⟩, ⟨b2, b3⟩⟩, o1, o2⟩ := hb.2.1
    have h := R.block_c (co lo.1 i) W (by omega)
    rwa [co_bk i0] at h)
  have BY : Hid (∀ (i : Int) (W : World), bk lo.2 ≤ i → i ≤ bk hi.2 → Calls Try.prog 16 #[.int .i64 (co lo.2 i)] W fun e w' => e = .returned (.int .i64 i) ∧ W = w') := Lib.hid (fun i W i0 i1 => by
    have xx := co_ge i0
    have xy := (co_le i0 hb.2.1.2.2.2).2 i1
    obtain ⟨⟨⟨a0, a1⟩, ⟨a2, a3⟩⟩, ⟨⟨b0, b1⟩, ⟨b2, b3⟩⟩, o1, o2⟩ := hb.2.1
    have h := R.block_c (co lo.2 i) W (by omega)
    rwa [co_bk i0] at h)
  have ST : Hid (∀ (s : Int) (W : World), sl t.z c ≤ s → s ≤ sl t.z d → Calls Try.prog 15 #[tv t u, .int .i64 (tm t.z c s)] W fun e w' => e = .returned (.int .i64 s) ∧ Grew W w') := Lib.hid (fun s W s0 s1 => by
    have zx := tm_ge s0
    have zy := (tm_le s0 hb.2.2.2.1).2 s1
    obtain ⟨c0, c1, c2⟩ := hb.2.2
    have h := R.slot_c t u (tm t.z c s) W hb.1.2.1 (by omega)
    rwa [tm_sl s0] at h)
  have EN : Hid (∀ (k m : Bd) (p : Bool) (W : World), Calls Try.prog 18 #[.agg #[.int .i64 0, .int .i64 0, .int .i64 0, .int .i64 k.a, .int .i64 k.b, .int .i64 k.c, .int .i64 k.d, .int .i64 k.e, .int .i64 k.f], .agg #[.int .i64 0, .int .i64 0, .int .i64 0, .int .i64 m.a, .int .i64 m.b, .int .i64 m.c, .int .i64 m.d, .int .i64 m.e, .int .i64 m.f], .bool p] W fun e w' => e = .returned (.agg #[.int .i64 0, .int .i64 0, .int .i64 0, .int .i64 (if p then m else jn k m).a, .int .i64 (if p then m else jn k m).b, .int .i64 (if p then m else jn k m).c, .int .i64 (if p then m else jn k m).d, .int .i64 (if p then m else jn k m).e, .int .i64 (if p then m else jn k m).f]) ∧ Grew W w') := Lib.hid ends_c
  have LA : Hid (∀ (x y : Int) (W : World), Calls Try.prog 17 #[.int .i64 x, .int .i64 y] W fun e w' => e = .returned (.agg #[.int .i64 x, .int .i64 y]) ∧ Grew W w') := Lib.hid lat_c
  obtain ⟨z0, z1⟩ : 0 ≤ t.z ∧ t.z ≤ 1000000000 := hb.1.2.1
  obtain ⟨c0, c1, c2⟩ : 0 ≤ c ∧ c ≤ d ∧ d ≤ 1000000000 := hb.2.2
  obtain ⟨⟨⟨a0, a1⟩, ⟨a2, a3⟩⟩, ⟨⟨b0, b1⟩, ⟨b2, b3⟩⟩, o1, o2⟩ := hb.2.1
  have x1 := bk_bd (x := lo.1) (by omega)
  have x2 := bk_bd (x := hi.1) (by omega)
  have x3 := bk_bd (x := lo.2) (by omega)
  have x4 := bk_bd (x := hi.2) (by omega)
  have x5 := sl_bd (z := t.z) (c := c) ⟨z0, z1⟩ (by omega)
  have x6 := sl_bd (z := t.z) (c := d) ⟨z0, z1⟩ (by omega)
  have m1 := bk_mono o1
  have m2 := bk_mono o2
  have m3 := sl_mono (z := t.z) c1
  have DN : Hid (∀ (p : Bool) (k : Bd), Wt t (bk lo.1) (bk hi.1) (bk lo.2) (bk hi.2) (sl t.z c) (sl t.z d) p k (sl t.z d + 1) (bk lo.1) (bk lo.2) → OvB t lo hi c d = k) := Lib.hid (fun p k h => h.done m1 m2 m3)
  have TF : Hid (tm t.z c (sl t.z c) = c) := Lib.hid (tm_first _ _)
  have XF : Hid (co lo.1 (bk lo.1) = lo.1) := Lib.hid (co_first _)
  have YF : Hid (co lo.2 (bk lo.2) = lo.2) := Lib.hid (co_first _)
  have TL : Hid (∀ s, sl t.z c ≤ s → (tm t.z c s ≤ d ↔ s ≤ sl t.z d)) := Lib.hid (fun s h => tm_le h c1)
  have XL : Hid (∀ i, bk lo.1 ≤ i → (co lo.1 i ≤ hi.1 ↔ i ≤ bk hi.1)) := Lib.hid (fun i h => co_le h o1)
  have YL : Hid (∀ i, bk lo.2 ≤ i → (co lo.2 i ≤ hi.2 ↔ i ≤ bk hi.2)) := Lib.hid (fun i h => co_le h o2)
  have TG : Hid (∀ s, sl t.z c ≤ s → c ≤ tm t.z c s) := Lib.hid (fun s h => tm_ge h)
  have XG : Hid (∀ i, bk lo.1 ≤ i → lo.1 ≤ co lo.1 i) := Lib.hid (fun i h => co_ge h)
  have YG : Hid (∀ i, bk lo.2 ≤ i → lo.2 ≤ co lo.2 i) := Lib.hid (fun i h => co_ge h)
  have TN : Hid (∀ s, sl t.z c ≤ s → tm t.z c s + 1 ≤ t.z + 3600 * (s + 1) ∧ t.z + 3600 * (s + 1) = tm t.z c (s + 1)) := Lib.hid (fun s h => by
    have h1 := tm_next h
    have h2 := tm_sl h
    have h3 : tm t.z c (s + 1) = t.z + 3600 * (s + 1) := if_neg (by omega)
    omega)
  have XN : Hid (∀ i, bk lo.1 ≤ i → 10000 * (i + 1) = co lo.1 (i + 1) ∧ co lo.1 i < co lo.1 (i + 1)) := Lib.hid (fun i h => ⟨co_next h, by have h1 := co_bk h; have h2 := co_bk (a := lo.1) (i := i + 1) (by omega); unfold bk at h1 h2; omega⟩)
  have YN : Hid (∀ i, bk lo.2 ≤ i → 10000 * (i + 1) = co lo.2 (i + 1) ∧ co lo.2 i < co lo.2 (i + 1)) := Lib.hid (fun i h => ⟨co_next h, by have h1 := co_bk h; have h2 := co_bk (a := lo.2) (i := i + 1) (by omega); unfold bk at h1 h2; omega⟩)
  have WS : Hid (Wt t (bk lo.1) (bk hi.1) (bk lo.2) (bk hi.2) (sl t.z c) (sl t.z d) true f0.k (sl t.z c) (bk lo.1) (bk lo.2)) := Lib.hid (Wt.start _)
  have WP : Hid (∀ p k s i j, Wt t (bk lo.1) (bk hi.1) (bk lo.2) (bk hi.2) (sl t.z c) (sl t.z d) p k s i j → Bx (bk lo.1) (bk hi.1) (bk lo.2) (bk hi.2) (sl t.z c) (sl t.z d) i j s → Wt t (bk lo.1) (bk hi.1) (bk lo.2) (bk hi.2) (sl t.z c) (sl t.z d) false (if p then Hd t i j s else jn k (Hd t i j s)) s i (j + 1)) := Lib.hid (fun p k s i j h b => h.step b)
  have WR : Hid (∀ p k s i, Wt t (bk lo.1) (bk hi.1) (bk lo.2) (bk hi.2) (sl t.z c) (sl t.z d) p k s i (bk hi.2 + 1) → Wt t (bk lo.1) (bk hi.1) (bk lo.2) (bk hi.2) (sl t.z c) (sl t.z d) p k s (i + 1) (bk lo.2)) := Lib.hid (fun p k s i h => h.row)
  have WG : Hid (∀ p k s, Wt t (bk lo.1) (bk hi.1) (bk lo.2) (bk hi.2) (sl t.z c) (sl t.z d) p k s (bk hi.1 + 1) (bk lo.2) → Wt t (bk lo.1) (bk hi.1) (bk lo.2) (bk hi.2) (sl t.z c) (sl t.z d) p k (s + 1) (bk lo.1) (bk lo.2)) := Lib.hid (fun p k s h => h.page)
  have h1 : ¬ 20000 < hi.1 - lo.1 := by omega
  have h2 : ¬ 20000 < hi.2 - lo.2 := by omega
  have h3 : ¬ 7200 < d - c := by omega
  unfold tv at UC BL BF AL AT ST ⊢
  clear hs hu K hb hb0 hsm
  generalize OvB t lo hi c d = kf at *
  generalize OvB t lo lo c c = k0 at *
  generalize tm t.z c = T at *
  generalize co lo.1 = CX at *
  generalize co lo.2 = CY at *
  obtain ⟨Z6, hZ6⟩ : ∃ Z : Bool → Bd → Int → Int → Int → Prop, Wt t (bk lo.1) (bk hi.1) (bk lo.2) (bk hi.2) (sl t.z c) (sl t.z d) = Z := ⟨_, rfl⟩
  rw [hZ6] at DN WS WP WR WG
  clear hZ6
  generalize sl t.z c = S at *
  generalize sl t.z d = S' at *
  generalize bk lo.1 = X at *
  generalize bk hi.1 = X' at *
  generalize bk lo.2 = Y at *
  generalize bk hi.2 = Y' at *
  obtain ⟨H, hH⟩ : ∃ H, Hd t = H := ⟨_, rfl⟩
  rw [hH] at AT WP
  clear hH
  have HT : Hid (∀ W, Grew (((w.alloc (.cells #[.int .i64 t.v, .int .i64 t.z, .int .i64 t.n, .int .i64 t.r.x, .int .i64 t.r.y, .int .i64 t.r.s, .int .i64 t.r.k.a, .int .i64 t.r.k.b, .int .i64 t.r.k.c, .int .i64 t.r.k.d, .int .i64 t.r.k.e, .int .i64 t.r.k.f, u] 28)).alloc (.cells #[.int .i64 lo.1, .int .i64 lo.2] 30)).alloc (.cells #[.int .i64 hi.1, .int .i64 hi.2] 30)) W → ((W.cell? ⟨w.heap.size, 0, none⟩ = some (.int .i64 t.v) ∧ W.cell? ⟨w.heap.size, 1, none⟩ = some (.int .i64 t.z) ∧ W.cell? ⟨w.heap.size, 2, none⟩ = some (.int .i64 t.n) ∧ W.cell? ⟨w.heap.size, 3, none⟩ = some (.int .i64 t.r.x) ∧ W.cell? ⟨w.heap.size, 4, none⟩ = some (.int .i64 t.r.y) ∧ W.cell? ⟨w.heap.size, 5, none⟩ = some (.int .i64 t.r.s) ∧ W.cell? ⟨w.heap.size, 6, none⟩ = some (.int .i64 t.r.k.a) ∧ W.cell? ⟨w.heap.size, 7, none⟩ = some (.int .i64 t.r.k.b) ∧ W.cell? ⟨w.heap.size, 8, none⟩ = some (.int .i64 t.r.k.c) ∧ W.cell? ⟨w.heap.size, 9, none⟩ = some (.int .i64 t.r.k.d) ∧ W.cell? ⟨w.heap.size, 10, none⟩ = some (.int .i64 t.r.k.e) ∧ W.cell? ⟨w.heap.size, 11, none⟩ = some (.int .i64 t.r.k.f) ∧ W.cell? ⟨w.heap.size, 12, none⟩ = some (u)) ∧ (W.cell? ⟨w.heap.size + 1, 0, none⟩ = some (.int .i64 lo.1) ∧ W.cell? ⟨w.heap.size + 1, 1, none⟩ = some (.int .i64 lo.2)) ∧ (W.cell? ⟨w.heap.size + 1 + 1, 0, none⟩ = some (.int .i64 hi.1) ∧ W.cell? ⟨w.heap.size + 1 + 1, 1, none⟩ = some (.int .i64 hi.2)) ∧ w.heap.size < W.heap.size ∧ w.heap.size + 1 < W.heap.size ∧ w.heap.size + 1 + 1 < W.heap.size)) := Lib.hid (fun W g => by
    have b0 := (((Blk.new w #[.int .i64 t.v, .int .i64 t.z, .int .i64 t.n, .int .i64 t.r.x, .int .i64 t.r.y, .int .i64 t.r.s, .int .i64 t.r.k.a, .int .i64 t.r.k.b, .int .i64 t.r.k.c, .int .i64 t.r.k.d, .int .i64 t.r.k.e, .int .i64 t.r.k.f, u] 28).alloc (.cells #[.int .i64 lo.1, .int .i64 lo.2] 30)).alloc (.cells #[.int .i64 hi.1, .int .i64 hi.2] 30)).grown g
    have b1 := ((blkN (W := w.alloc (.cells #[.int .i64 t.v, .int .i64 t.z, .int .i64 t.n, .int .i64 t.r.x, .int .i64 t.r.y, .int .i64 t.r.s, .int .i64 t.r.k.a, .int .i64 t.r.k.b, .int .i64 t.r.k.c, .int .i64 t.r.k.d, .int .i64 t.r.k.e, .int .i64 t.r.k.f, u] 28)) (k := w.heap.size + 1) (cs := #[.int .i64 lo.1, .int .i64 lo.2]) (t := 30) (by simp)).alloc (.cells #[.int .i64 hi.1, .int .i64 hi.2] 30)).grown g
    have b2 := (blkN (W := (w.alloc (.cells #[.int .i64 t.v, .int .i64 t.z, .int .i64 t.n, .int .i64 t.r.x, .int .i64 t.r.y, .int .i64 t.r.s, .int .i64 t.r.k.a, .int .i64 t.r.k.b, .int .i64 t.r.k.c, .int .i64 t.r.k.d, .int .i64 t.r.k.e, .int .i64 t.r.k.f, u] 28)).alloc (.cells #[.int .i64 lo.1, .int .i64 lo.2] 30)) (k := w.heap.size + 1 + 1) (cs := #[.int .i64 hi.1, .int .i64 hi.2]) (t := 30) (by simp)).grown g
    exact ⟨⟨blkAt b0 rfl, blkAt b0 rfl, blkAt b0 rfl, blkAt b0 rfl, blkAt b0 rfl, blkAt b0 rfl, blkAt b0 rfl, blkAt b0 rfl, blkAt b0 rfl, blkAt b0 rfl, blkAt b0 rfl, blkAt b0 rfl, blkAt b0 rfl⟩, ⟨blkAt b1 rfl, blkAt b1 rfl⟩, ⟨blkAt b2 rfl, blkAt b2 rfl⟩, b0.lt, b1.lt, b2.lt⟩)
  have G0 : Hid (Grew w (((w.alloc (.cells #[.int .i64 t.v, .int .i64 t.z, .int .i64 t.n, .int .i64 t.r.x, .int .i64 t.r.y, .int .i64 t.r.s, .int .i64 t.r.k.a, .int .i64 t.r.k.b, .int .i64 t.r.k.c, .int .i64 t.r.k.d, .int .i64 t.r.k.e, .int .i64 t.r.k.f, u] 28)).alloc (.cells #[.int .i64 lo.1, .int .i64 lo.2] 30)).alloc (.cells #[.int .i64 hi.1, .int .i64 hi.2] 30))) := Lib.hid (((Grew.refl w).alloc _ _).alloc _ _ |>.alloc _ _)
  go_enter Try.func4, Try.ntmps4
  go_wp2_with fail
  refine (HD.out _).mono ?_
  rintro e w1 ⟨rfl, GW⟩
  obtain ⟨⟨t0, t1, t2, t3, t4, t5, t6, t7, t8, t9, t10, t11, t12⟩, ⟨l0, l1⟩, ⟨h0, h1⟩, q0, q1, q2⟩ := HT.out w1 GW
  go_wp2_with fail
  refine (UC.out _ (G0.out.trans GW)).mono ?_
  rintro e w2 ⟨rfl, g2⟩
  have GW := GW.trans g2
  clear g2
  clear t0 t1 t2 t3 t4 t5 t6 t7 t8 t9 t10 t11 t12 l0 l1 h0 h1 q0 q1 q2 
  obtain ⟨⟨t0, t1, t2, t3, t4, t5, t6, t7, t8, t9, t10, t11, t12⟩, ⟨l0, l1⟩, ⟨h0, h1⟩, q0, q1, q2⟩ := HT.out w2 GW
  go_wp2_with fail
  refine (BL.out _ (G0.out.trans GW)).mono ?_
  rintro e w3 ⟨rfl, g3⟩
  have GW := GW.trans g3
  clear g3
  clear t0 t1 t2 t3 t4 t5 t6 t7 t8 t9 t10 t11 t12 l0 l1 h0 h1 q0 q1 q2 
  obtain ⟨⟨t0, t1, t2, t3, t4, t5, t6, t7, t8, t9, t10, t11, t12⟩, ⟨l0, l1⟩, ⟨h0, h1⟩, q0, q1, q2⟩ := HT.out w3 GW
  go_wp2_with fail
  obtain ⟨w4, hw⟩ : ∃ W, w3.alloc (.cells #[.int .i64 0, .int .i64 0, .int .i64 0, .int .i64 k0.a, .int .i64 k0.b, .int .i64 k0.c, .int .i64 k0.d, .int .i64 k0.e, .int .i64 k0.f] 25) = W := ⟨_, rfl⟩
  have A1 : Hid (Blk w4 w3.heap.size #[.int .i64 0, .int .i64 0, .int .i64 0, .int .i64 k0.a, .int .i64 k0.b, .int .i64 k0.c, .int .i64 k0.d, .int .i64 k0.e, .int .i64 k0.f] 25) := Lib.hid (by rw [← hw]; exact Blk.new _ _ _)
  have GW : Grew _ w4 := GW.trans (by rw [← hw]; exact (Grew.refl _).alloc _ _)
  try rw [hw]
  clear hw
  clear t0 t1 t2 t3 t4 t5 t6 t7 t8 t9 t10 t11 t12 l0 l1 h0 h1 q0 q1 q2 
  obtain ⟨⟨t0, t1, t2, t3, t4, t5, t6, t7, t8, t9, t10, t11, t12⟩, ⟨l0, l1⟩, ⟨h0, h1⟩, q0, q1, q2⟩ := HT.out w4 GW
  have A1b := A1.out.lt
  have A10 := blkAt A1.out (i := 0) rfl
  have A11 := blkAt A1.out (i := 1) rfl
  have A12 := blkAt A1.out (i := 2) rfl
  have A13 := blkAt A1.out (i := 3) rfl
  have A14 := blkAt A1.out (i := 4) rfl
  have A15 := blkAt A1.out (i := 5) rfl
  have A16 := blkAt A1.out (i := 6) rfl
  have A17 := blkAt A1.out (i := 7) rfl
  have A18 := blkAt A1.out (i := 8) rfl
  refine (AL.out _ (G0.out.trans GW)).mono ?_
  rintro e w5 ⟨rfl, g5⟩
  have GW := GW.trans g5
  have A1 := Lib.hid (A1.out.grown g5)
  clear g5
  clear t0 t1 t2 t3 t4 t5 t6 t7 t8 t9 t10 t11 t12 l0 l1 h0 h1 q0 q1 q2 A1b A10 A11 A12 A13 A14 A15 A16 A17 A18
  obtain ⟨⟨t0, t1, t2, t3, t4, t5, t6, t7, t8, t9, t10, t11, t12⟩, ⟨l0, l1⟩, ⟨h0, h1⟩, q0, q1, q2⟩ := HT.out w5 GW
  have A1b := A1.out.lt
  have A10 := blkAt A1.out (i := 0) rfl
  have A11 := blkAt A1.out (i := 1) rfl
  have A12 := blkAt A1.out (i := 2) rfl
  have A13 := blkAt A1.out (i := 3) rfl
  have A14 := blkAt A1.out (i := 4) rfl
  have A15 := blkAt A1.out (i := 5) rfl
  have A16 := blkAt A1.out (i := 6) rfl
  have A17 := blkAt A1.out (i := 7) rfl
  have A18 := blkAt A1.out (i := 8) rfl
  clear HD UC BL AL
  go_wp2_with fail
  obtain ⟨bw, hbw⟩ : ∃ b, w5.heap.size + 1 = b := ⟨_, rfl⟩
  obtain ⟨w6, hw⟩ : ∃ W, (w5.alloc (.cells #[.int .i64 0, .int .i64 0, .int .i64 0, .int .i64 k0.a, .int .i64 k0.b, .int .i64 k0.c, .int .i64 k0.d, .int .i64 k0.e, .int .i64 k0.f] 25)).alloc (.cells #[.int .i64 0, .int .i64 0, .int .i64 0, .int .i64 0, .int .i64 0, .int .i64 0, .int .i64 0, .int .i64 0, .int .i64 0] 25) = W := ⟨_, rfl⟩
  have BW : Hid (Blk w6 bw #[.int .i64 0, .int .i64 0, .int .i64 0, .int .i64 f0.k.a, .int .i64 f0.k.b, .int .i64 f0.k.c, .int .i64 f0.k.d, .int .i64 f0.k.e, .int .i64 f0.k.f] 25) := Lib.hid (by rw [← hw, ← hbw]; exact blkN (by simp))
  have ZB : (((w.alloc (.cells #[.int .i64 t.v, .int .i64 t.z, .int .i64 t.n, .int .i64 t.r.x, .int .i64 t.r.y, .int .i64 t.r.s, .int .i64 t.r.k.a, .int .i64 t.r.k.b, .int .i64 t.r.k.c, .int .i64 t.r.k.d, .int .i64 t.r.k.e, .int .i64 t.r.k.f, u] 28)).alloc (.cells #[.int .i64 lo.1, .int .i64 lo.2] 30)).alloc (.cells #[.int .i64 hi.1, .int .i64 hi.2] 30)).heap.size ≤ bw := by have := GW.size; omega
  have GW : Grew _ w6 := GW.trans (by rw [← hw]; exact ((Grew.refl _).alloc _ _).alloc _ _)
  try rw [hw]
  clear hw
  clear t0 t1 t2 t3 t4 t5 t6 t7 t8 t9 t10 t11 t12 l0 l1 h0 h1 q0 q1 q2 A1b A10 A11 A12 A13 A14 A15 A16 A17 A18
  try rw [hbw]
  clear hbw A1
  obtain ⟨Z, hZ⟩ : ∃ Z, ((w.alloc (.cells #[.int .i64 t.v, .int .i64 t.z, .int .i64 t.n, .int .i64 t.r.x, .int .i64 t.r.y, .int .i64 t.r.s, .int .i64 t.r.k.a, .int .i64 t.r.k.b, .int .i64 t.r.k.c, .int .i64 t.r.k.d, .int .i64 t.r.k.e, .int .i64 t.r.k.f, u] 28)).alloc (.cells #[.int .i64 lo.1, .int .i64 lo.2] 30)).alloc (.cells #[.int .i64 hi.1, .int .i64 hi.2] 30) = Z := ⟨_, rfl⟩
  rw [hZ] at HT G0 GW ZB
  clear hZ
  go_loopw [17, 18] (fun v17 v18 wr => ∃ (P : Bool) (k : Bd) (s : Int), v17 = .bool P ∧ v18 = .int .i64 (T s) ∧ S ≤ s ∧ s ≤ S' + 1 ∧ Grew Z wr ∧ Hid (Blk wr bw #[.int .i64 0, .int .i64 0, .int .i64 0, .int .i64 k.a, .int .i64 k.b, .int .i64 k.c, .int .i64 k.d, .int .i64 k.e, .int .i64 k.f] 25) ∧ Hid (Z6 P k s X Y)) (fun _ v _ => (d + 1 - intOf v).toNat)
  case atStart => exact ⟨true, f0.k, S, rfl, by rw [TF.out], Int.le_refl _, by omega, GW, BW, WS⟩
  case round =>
    clear GW BW
    obtain ⟨P, k, s, rfl, rfl, s0, s1, GW, BW, WT⟩ := hrel
    have tg := TG.out s s0
    by_cases hlt : s ≤ S'
    · have ht := (TL.out s s0).2 hlt
      obtain ⟨Va, rfl⟩ : ∃ V : World, V = wr := ⟨_, rfl⟩
      obtain ⟨⟨t0, t1, t2, t3, t4, t5, t6, t7, t8, t9, t10, t11, t12⟩, ⟨l0, l1⟩, ⟨h0, h1⟩, q0, q1, q2⟩ := HT.out Va GW
      go_wp2_with fail
      clear t0 t1 t2 t3 t4 t5 t6 t7 t8 t9 t10 t11 t12 l0 l1 h0 h1 q0 q1 q2 
      go_loopw [17, 19] (fun v17 v19 wr => ∃ (P : Bool) (k : Bd) (i : Int), v17 = .bool P ∧ v19 = .int .i64 (CX i) ∧ X ≤ i ∧ i ≤ X' + 1 ∧ Grew Z wr ∧ Hid (Blk wr bw #[.int .i64 0, .int .i64 0, .int .i64 0, .int .i64 k.a, .int .i64 k.b, .int .i64 k.c, .int .i64 k.d, .int .i64 k.e, .int .i64 k.f] 25) ∧ Hid (Z6 P k s i Y)) (fun _ v _ => (hi.1 + 1 - intOf v).toNat)
      case atStart => exact ⟨P, k, X, rfl, by rw [XF.out], Int.le_refl _, by omega, GW, BW, WT⟩
      case round =>
        clear GW BW WT
        obtain ⟨P, k, i, rfl, rfl, i0, i1, GW, BW, WT⟩ := hrel
        have xg := XG.out i i0
        by_cases hlx : i ≤ X'
        · have hx := (XL.out i i0).2 hlx
          obtain ⟨Vb, rfl⟩ : ∃ V : World, V = wr := ⟨_, rfl⟩
          obtain ⟨⟨t0, t1, t2, t3, t4, t5, t6, t7, t8, t9, t10, t11, t12⟩, ⟨l0, l1⟩, ⟨h0, h1⟩, q0, q1, q2⟩ := HT.out Vb GW
          go_wp2_with fail
          clear t0 t1 t2 t3 t4 t5 t6 t7 t8 t9 t10 t11 t12 l0 l1 h0 h1 q0 q1 q2 
          go_loopw [17, 20] (fun v17 v20 wr => ∃ (P : Bool) (k : Bd) (j : Int), v17 = .bool P ∧ v20 = .int .i64 (CY j) ∧ Y ≤ j ∧ j ≤ Y' + 1 ∧ Grew Z wr ∧ Hid (Blk wr bw #[.int .i64 0, .int .i64 0, .int .i64 0, .int .i64 k.a, .int .i64 k.b, .int .i64 k.c, .int .i64 k.d, .int .i64 k.e, .int .i64 k.f] 25) ∧ Hid (Z6 P k s i j)) (fun _ v _ => (hi.2 + 1 - intOf v).toNat)
          case atStart => exact ⟨P, k, Y, rfl, by rw [YF.out], Int.le_refl _, by omega, GW, BW, WT⟩
          case round =>
            clear GW BW WT
            obtain ⟨P, k, j, rfl, rfl, j0, j1, GW, BW, WT⟩ := hrel
            have yg := YG.out j j0
            by_cases hly : j ≤ Y'
            · have hy := (YL.out j j0).2 hly
              obtain ⟨Vc, rfl⟩ : ∃ V : World, V = wr := ⟨_, rfl⟩
              obtain ⟨⟨t0, t1, t2, t3, t4, t5, t6, t7, t8, t9, t10, t11, t12⟩, ⟨l0, l1⟩, ⟨h0, h1⟩, q0, q1, q2⟩ := HT.out Vc GW
              go_wp2_with fail
              clear t0 t1 t2 t3 t4 t5 t6 t7 t8 t9 t10 t11 t12 l0 l1 h0 h1 q0 q1 q2 
              have AT1 : Hid (∀ W, Grew w W → Calls Try.prog 12 #[.agg #[.int .i64 t.v, .int .i64 t.z, .int .i64 t.n, .int .i64 t.r.x, .int .i64 t.r.y, .int .i64 t.r.s, .int .i64 t.r.k.a, .int .i64 t.r.k.b, .int .i64 t.r.k.c, .int .i64 t.r.k.d, .int .i64 t.r.k.e, .int .i64 t.r.k.f, u], .agg #[.int .i64 (CX i), .int .i64 (CY j)], .int .i64 (T s)] W fun e w' => e = .returned (.tuple #[.agg #[.int .i64 0, .int .i64 0, .int .i64 0, .int .i64 (H i j s).a, .int .i64 (H i j s).b, .int .i64 (H i j s).c, .int .i64 (H i j s).d, .int .i64 (H i j s).e, .int .i64 (H i j s).f], .int .i64 0]) ∧ Grew W w') := Lib.hid (fun W g => AT.out i j s W i0 hlx j0 hly s0 hlt g)
              have LA1 : Hid (∀ W, Calls Try.prog 17 #[.int .i64 (CX i), .int .i64 (CY j)] W fun e w' => e = .returned (.agg #[.int .i64 (CX i), .int .i64 (CY j)]) ∧ Grew W w') := Lib.hid (fun W => LA.out (CX i) (CY j) W)
              have WT1 : Hid (Z6 false (if P then H i j s else jn k (H i j s)) s i (j + 1)) := Lib.hid (WP.out _ _ _ _ _ WT.out (by unfold Bx; omega))
              have E1 : Hid (∀ W, Calls Try.prog 18 #[.agg #[.int .i64 0, .int .i64 0, .int .i64 0, .int .i64 k.a, .int .i64 k.b, .int .i64 k.c, .int .i64 k.d, .int .i64 k.e, .int .i64 k.f], .agg #[.int .i64 0, .int .i64 0, .int .i64 0, .int .i64 (H i j s).a, .int .i64 (H i j s).b, .int .i64 (H i j s).c, .int .i64 (H i j s).d, .int .i64 (H i j s).e, .int .i64 (H i j s).f], .bool P] W fun e w' => e = .returned (.agg #[.int .i64 0, .int .i64 0, .int .i64 0, .int .i64 (if P then H i j s else jn k (H i j s)).a, .int .i64 (if P then H i j s else jn k (H i j s)).b, .int .i64 (if P then H i j s else jn k (H i j s)).c, .int .i64 (if P then H i j s else jn k (H i j s)).d, .int .i64 (if P then H i j s else jn k (H i j s)).e, .int .i64 (if P then H i j s else jn k (H i j s)).f]) ∧ Grew W w') := Lib.hid (fun W => EN.out k (H i j s) P W)
              clear WT
              generalize (if P then H i j s else jn k (H i j s)) = kn at *
              generalize H i j s = k2 at *
              have HW := Lib.hid GW
              clear GW
              have KS : Hid (∀ W, Grew Vc W → (W.cell? ⟨w.heap.size, 0, none⟩ = some (.int .i64 t.v) ∧ W.cell? ⟨w.heap.size, 1, none⟩ = some (.int .i64 t.z) ∧ W.cell? ⟨w.heap.size, 2, none⟩ = some (.int .i64 t.n) ∧ W.cell? ⟨w.heap.size, 3, none⟩ = some (.int .i64 t.r.x) ∧ W.cell? ⟨w.heap.size, 4, none⟩ = some (.int .i64 t.r.y) ∧ W.cell? ⟨w.heap.size, 5, none⟩ = some (.int .i64 t.r.s) ∧ W.cell? ⟨w.heap.size, 6, none⟩ = some (.int .i64 t.r.k.a) ∧ W.cell? ⟨w.heap.size, 7, none⟩ = some (.int .i64 t.r.k.b) ∧ W.cell? ⟨w.heap.size, 8, none⟩ = some (.int .i64 t.r.k.c) ∧ W.cell? ⟨w.heap.size, 9, none⟩ = some (.int .i64 t.r.k.d) ∧ W.cell? ⟨w.heap.size, 10, none⟩ = some (.int .i64 t.r.k.e) ∧ W.cell? ⟨w.heap.size, 11, none⟩ = some (.int .i64 t.r.k.f) ∧ W.cell? ⟨w.heap.size, 12, none⟩ = some (u) ∧ W.cell? ⟨w.heap.size + 1, 0, none⟩ = some (.int .i64 lo.1) ∧ W.cell? ⟨w.heap.size + 1, 1, none⟩ = some (.int .i64 lo.2) ∧ W.cell? ⟨w.heap.size + 1 + 1, 0, none⟩ = some (.int .i64 hi.1) ∧ W.cell? ⟨w.heap.size + 1 + 1, 1, none⟩ = some (.int .i64 hi.2))) := Lib.hid (fun W g => by
                obtain ⟨⟨t0, t1, t2, t3, t4, t5, t6, t7, t8, t9, t10, t11, t12⟩, ⟨l0, l1⟩, ⟨h0, h1⟩, _⟩ := HT.out W (HW.out.trans g)
                exact ⟨t0, t1, t2, t3, t4, t5, t6, t7, t8, t9, t10, t11, t12, l0, l1, h0, h1⟩)
              have GA := Grew.refl Vc
              go_cut [21, 22] from 118 to 126 (fun s21 s22 wx => ∃ B, s21 = .pointer (some ⟨B, 0, none⟩) ∧ s22 = .int .i64 0 ∧ Hid (Blk wx B #[.int .i64 0, .int .i64 0, .int .i64 0, .int .i64 k2.a, .int .i64 k2.b, .int .i64 k2.c, .int .i64 k2.d, .int .i64 k2.e, .int .i64 k2.f] 25) ∧ Grew Vc wx)
              case first =>
                go_region_held3 (fun W => W.cell? ⟨w.heap.size, 0, none⟩ = some (.int .i64 t.v) ∧ W.cell? ⟨w.heap.size, 1, none⟩ = some (.int .i64 t.z) ∧ W.cell? ⟨w.heap.size, 2, none⟩ = some (.int .i64 t.n) ∧ W.cell? ⟨w.heap.size, 3, none⟩ = some (.int .i64 t.r.x) ∧ W.cell? ⟨w.heap.size, 4, none⟩ = some (.int .i64 t.r.y) ∧ W.cell? ⟨w.heap.size, 5, none⟩ = some (.int .i64 t.r.s) ∧ W.cell? ⟨w.heap.size, 6, none⟩ = some (.int .i64 t.r.k.a) ∧ W.cell? ⟨w.heap.size, 7, none⟩ = some (.int .i64 t.r.k.b) ∧ W.cell? ⟨w.heap.size, 8, none⟩ = some (.int .i64 t.r.k.c) ∧ W.cell? ⟨w.heap.size, 9, none⟩ = some (.int .i64 t.r.k.d) ∧ W.cell? ⟨w.heap.size, 10, none⟩ = some (.int .i64 t.r.k.e) ∧ W.cell? ⟨w.heap.size, 11, none⟩ = some (.int .i64 t.r.k.f) ∧ W.cell? ⟨w.heap.size, 12, none⟩ = some (u) ∧ W.cell? ⟨w.heap.size + 1, 0, none⟩ = some (.int .i64 lo.1) ∧ W.cell? ⟨w.heap.size + 1, 1, none⟩ = some (.int .i64 lo.2) ∧ W.cell? ⟨w.heap.size + 1 + 1, 0, none⟩ = some (.int .i64 hi.1) ∧ W.cell? ⟨w.heap.size + 1 + 1, 1, none⟩ = some (.int .i64 hi.2)) (exact KS.out _ (by (repeat' (first | (with_reducible exact Grew.refl _) | (with_reducible assumption) | (with_reducible refine Grew.alloc ?_ _ _) | (with_reducible refine Grew.drew ?_) | (with_reducible refine Grew.drewN ?_ _) | (with_reducible refine Grew.setCell ?_ ?_ _) | go_size))))
                  (first
                    | (go_at_call 17; refine (LA1.out _).mono ?_; rintro e w7 ⟨rfl, gn⟩; (first | (have BK := Lib.hid ((Blk.new _ _ _).grown gn)) | (have BK := Lib.hid ((Blk.drew (Blk.new _ _ _)).grown gn)) | (have BK := Lib.hid (BK.out.grown gn)) | skip); (try rw [World.size_drew] at BK); have GA : Grew Vc w7 := Grew.trans (by (repeat' (first | (with_reducible exact Grew.refl _) | (with_reducible assumption) | (with_reducible refine Grew.alloc ?_ _ _) | (with_reducible refine Grew.drew ?_) | (with_reducible refine Grew.drewN ?_ _) | (with_reducible refine Grew.setCell ?_ ?_ _) | go_size))) gn; have zq := GA.size; clear gn)
                    | (go_at_call 12; refine (AT1.out _ (G0.out.trans (HW.out.trans (by (repeat' (first | (with_reducible exact Grew.refl _) | (with_reducible assumption) | (with_reducible refine Grew.alloc ?_ _ _) | (with_reducible refine Grew.drew ?_) | (with_reducible refine Grew.drewN ?_ _) | (with_reducible refine Grew.setCell ?_ ?_ _) | go_size)))))).mono ?_; rintro e w8 ⟨rfl, gn⟩; (first | (have BK := Lib.hid ((Blk.new _ _ _).grown gn)) | (have BK := Lib.hid ((Blk.drew (Blk.new _ _ _)).grown gn)) | (have BK := Lib.hid (BK.out.grown gn)) | skip); (try rw [World.size_drew] at BK); have GA : Grew Vc w8 := Grew.trans (by (repeat' (first | (with_reducible exact Grew.refl _) | (with_reducible assumption) | (with_reducible refine Grew.alloc ?_ _ _) | (with_reducible refine Grew.drew ?_) | (with_reducible refine Grew.drewN ?_ _) | (with_reducible refine Grew.setCell ?_ ?_ _) | go_size))) gn; have zq := GA.size; (try (have yl := BK.out.lt)); (try ((have y0 := blkAt BK.out (i := 0) (v := .int .i64 0) rfl); (have v0 := blkFz BK.out (i := 0) (by simp)); (have y1 := blkAt BK.out (i := 1) (v := .int .i64 0) rfl); (have v1 := blkFz BK.out (i := 1) (by simp)); (have y2 := blkAt BK.out (i := 2) (v := .int .i64 0) rfl); (have v2 := blkFz BK.out (i := 2) (by simp)); (have y3 := blkAt BK.out (i := 3) (v := .int .i64 0) rfl); (have v3 := blkFz BK.out (i := 3) (by simp)); (have y4 := blkAt BK.out (i := 4) (v := .int .i64 0) rfl); (have v4 := blkFz BK.out (i := 4) (by simp)); (have y5 := blkAt BK.out (i := 5) (v := .int .i64 0) rfl); (have v5 := blkFz BK.out (i := 5) (by simp)); (have y6 := blkAt BK.out (i := 6) (v := .int .i64 0) rfl); (have v6 := blkFz BK.out (i := 6) (by simp)); (have y7 := blkAt BK.out (i := 7) (v := .int .i64 0) rfl); (have v7 := blkFz BK.out (i := 7) (by simp)); (have y8 := blkAt BK.out (i := 8) (v := .int .i64 0) rfl); (have v8 := blkFz BK.out (i := 8) (by simp)))); clear gn))
                all_goals (go_wp2_with fail; go_meet)
                all_goals first
                  | (have _ := BK.out; exact ⟨_, rfl, rfl, Lib.hid (Blk.put9 BK.out), Grew.put9 GA (by omega)⟩)
                  | exact ⟨_, rfl, rfl, Lib.hid (Blk.new _ _ _), Grew.alloc GA _ _⟩
              case rest =>
                clear KS GA LA1 AT1
                obtain ⟨B2, rfl, rfl, H2, GN⟩ := hcut
                have H1 := Lib.hid (BW.out.grown GN)
                have HW := Lib.hid (HW.out.trans GN)
                clear GN
                have pb := H1.out.lt
                have p0 := blkAt H1.out (i := 0) rfl
                have p1 := blkAt H1.out (i := 1) rfl
                have p2 := blkAt H1.out (i := 2) rfl
                have p3 := blkAt H1.out (i := 3) rfl
                have p4 := blkAt H1.out (i := 4) rfl
                have p5 := blkAt H1.out (i := 5) rfl
                have p6 := blkAt H1.out (i := 6) rfl
                have p7 := blkAt H1.out (i := 7) rfl
                have p8 := blkAt H1.out (i := 8) rfl
                have qb := H2.out.lt
                have q0 := blkAt H2.out (i := 0) rfl
                have q1 := blkAt H2.out (i := 1) rfl
                have q2 := blkAt H2.out (i := 2) rfl
                have q3 := blkAt H2.out (i := 3) rfl
                have q4 := blkAt H2.out (i := 4) rfl
                have q5 := blkAt H2.out (i := 5) rfl
                have q6 := blkAt H2.out (i := 6) rfl
                have q7 := blkAt H2.out (i := 7) rfl
                have q8 := blkAt H2.out (i := 8) rfl
                go_wp2_with fail
                refine (E1.out _).mono ?_
                rintro e w9 ⟨rfl, g9⟩
                have H1 := Lib.hid (H1.out.grown g9)
                have HW := Lib.hid (HW.out.trans g9)
                clear g9 H2
                clear p0 p1 p2 p3 p4 p5 p6 p7 p8 q0 q1 q2 q3 q4 q5 q6 q7 q8 pb qb
                have pb := H1.out.lt
                have p0 := blkAt H1.out (i := 0) rfl
                have p1 := blkAt H1.out (i := 1) rfl
                have p2 := blkAt H1.out (i := 2) rfl
                have p3 := blkAt H1.out (i := 3) rfl
                have p4 := blkAt H1.out (i := 4) rfl
                have p5 := blkAt H1.out (i := 5) rfl
                have p6 := blkAt H1.out (i := 6) rfl
                have p7 := blkAt H1.out (i := 7) rfl
                have p8 := blkAt H1.out (i := 8) rfl
                have v0 := blkFz H1.out (i := 0) (by simp)
                have v1 := blkFz H1.out (i := 1) (by simp)
                have v2 := blkFz H1.out (i := 2) (by simp)
                have v3 := blkFz H1.out (i := 3) (by simp)
                have v4 := blkFz H1.out (i := 4) (by simp)
                have v5 := blkFz H1.out (i := 5) (by simp)
                have v6 := blkFz H1.out (i := 6) (by simp)
                have v7 := blkFz H1.out (i := 7) (by simp)
                have v8 := blkFz H1.out (i := 8) (by simp)
                go_wp2_with fail
                refine (BY.out j _ j0 hly).mono ?_
                rintro e w10 ⟨rfl, rfl⟩
                go_wp2_with fail
                obtain ⟨yn, ym⟩ := YN.out j j0
                go_roundw
                case rel => exact ⟨false, kn, j + 1, rfl, by rw [yn], by omega, by omega, Grew.put9 HW.out ZB, Lib.hid (Blk.put9 H1.out), WT1⟩
                case measure => simp [intOf]; omega
            · have hy : ¬ CY j ≤ hi.2 := fun h => hly ((YL.out j j0).1 h)
              obtain rfl : j = Y' + 1 := by omega
              obtain ⟨⟨t0, t1, t2, t3, t4, t5, t6, t7, t8, t9, t10, t11, t12⟩, ⟨l0, l1⟩, ⟨h0, h1⟩, q0, q1, q2⟩ := HT.out wr GW
              go_wp2_with fail
              refine (BX.out i _ i0 hlx).mono ?_
              rintro e w10 ⟨rfl, rfl⟩
              go_wp2_with fail
              obtain ⟨xn, xm⟩ := XN.out i i0
              go_roundw
              case rel => exact ⟨P, k, i + 1, rfl, by rw [xn], by omega, by omega, GW, BW, Lib.hid (WR.out _ _ _ _ WT.out)⟩
              case measure => simp [intOf]; omega
        · have hx : ¬ CX i ≤ hi.1 := fun h => hlx ((XL.out i i0).1 h)
          obtain rfl : i = X' + 1 := by omega
          obtain ⟨⟨t0, t1, t2, t3, t4, t5, t6, t7, t8, t9, t10, t11, t12⟩, ⟨l0, l1⟩, ⟨h0, h1⟩, q0, q1, q2⟩ := HT.out wr GW
          go_wp2_with fail
          obtain ⟨tn, tm'⟩ := TN.out s s0
          have ST1 : Hid (∀ W, Calls Try.prog 15 #[.agg #[.int .i64 t.v, .int .i64 t.z, .int .i64 t.n, .int .i64 t.r.x, .int .i64 t.r.y, .int .i64 t.r.s, .int .i64 t.r.k.a, .int .i64 t.r.k.b, .int .i64 t.r.k.c, .int .i64 t.r.k.d, .int .i64 t.r.k.e, .int .i64 t.r.k.f, u], .int .i64 (T s)] W fun e w' => e = .returned (.int .i64 s) ∧ Grew W w') := Lib.hid (fun W => ST.out s W s0 hlt)
          have WT1 : Hid (Z6 P k (s + 1) X Y) := Lib.hid (WG.out _ _ _ WT.out)
          clear WT
          have HW := Lib.hid GW
          clear GW
          clear t0 t1 t2 t3 t4 t5 t6 t7 t8 t9 t10 t11 t12 l0 l1 h0 h1 q0 q1 q2 
          have KS : Hid (∀ W, Grew wr W → (W.cell? ⟨w.heap.size, 0, none⟩ = some (.int .i64 t.v) ∧ W.cell? ⟨w.heap.size, 1, none⟩ = some (.int .i64 t.z) ∧ W.cell? ⟨w.heap.size, 2, none⟩ = some (.int .i64 t.n) ∧ W.cell? ⟨w.heap.size, 3, none⟩ = some (.int .i64 t.r.x) ∧ W.cell? ⟨w.heap.size, 4, none⟩ = some (.int .i64 t.r.y) ∧ W.cell? ⟨w.heap.size, 5, none⟩ = some (.int .i64 t.r.s) ∧ W.cell? ⟨w.heap.size, 6, none⟩ = some (.int .i64 t.r.k.a) ∧ W.cell? ⟨w.heap.size, 7, none⟩ = some (.int .i64 t.r.k.b) ∧ W.cell? ⟨w.heap.size, 8, none⟩ = some (.int .i64 t.r.k.c) ∧ W.cell? ⟨w.heap.size, 9, none⟩ = some (.int .i64 t.r.k.d) ∧ W.cell? ⟨w.heap.size, 10, none⟩ = some (.int .i64 t.r.k.e) ∧ W.cell? ⟨w.heap.size, 11, none⟩ = some (.int .i64 t.r.k.f) ∧ W.cell? ⟨w.heap.size, 12, none⟩ = some (u) ∧ W.cell? ⟨w.heap.size + 1, 0, none⟩ = some (.int .i64 lo.1) ∧ W.cell? ⟨w.heap.size + 1, 1, none⟩ = some (.int .i64 lo.2) ∧ W.cell? ⟨w.heap.size + 1 + 1, 0, none⟩ = some (.int .i64 hi.1) ∧ W.cell? ⟨w.heap.size + 1 + 1, 1, none⟩ = some (.int .i64 hi.2))) := Lib.hid (fun W g => by
            obtain ⟨⟨t0, t1, t2, t3, t4, t5, t6, t7, t8, t9, t10, t11, t12⟩, ⟨l0, l1⟩, ⟨h0, h1⟩, _⟩ := HT.out W (HW.out.trans g)
            exact ⟨t0, t1, t2, t3, t4, t5, t6, t7, t8, t9, t10, t11, t12, l0, l1, h0, h1⟩)
          have GA := Grew.refl wr
          have W1 : IntKind.i64.wrap (T s + 1) = T s + 1 := by rw [IntKind.wrap_i64]; omega
          have W2 : IntKind.i64.wrap (s + 1) = s + 1 := by rw [IntKind.wrap_i64]; omega
          have W3 : IntKind.i64.wrap (3600 * (s + 1)) = 3600 * (s + 1) := by rw [IntKind.wrap_i64]; omega
          have W4 : IntKind.i64.wrap (t.z + 3600 * (s + 1)) = t.z + 3600 * (s + 1) := by rw [IntKind.wrap_i64]; omega
          have W5 : Hid (IntKind.i64.wrap (T (s + 1)) = T (s + 1)) := Lib.hid (by rw [← tm']; exact W4)
          have MX : Hid ((if T s + 1 < IntKind.i64.wrap (T (s + 1)) then IntKind.i64.wrap (T (s + 1)) else T s + 1) = T (s + 1)) := Lib.hid (by rw [W5.out]; split <;> omega)
          go_region_held3 (fun W => W.cell? ⟨w.heap.size, 0, none⟩ = some (.int .i64 t.v) ∧ W.cell? ⟨w.heap.size, 1, none⟩ = some (.int .i64 t.z) ∧ W.cell? ⟨w.heap.size, 2, none⟩ = some (.int .i64 t.n) ∧ W.cell? ⟨w.heap.size, 3, none⟩ = some (.int .i64 t.r.x) ∧ W.cell? ⟨w.heap.size, 4, none⟩ = some (.int .i64 t.r.y) ∧ W.cell? ⟨w.heap.size, 5, none⟩ = some (.int .i64 t.r.s) ∧ W.cell? ⟨w.heap.size, 6, none⟩ = some (.int .i64 t.r.k.a) ∧ W.cell? ⟨w.heap.size, 7, none⟩ = some (.int .i64 t.r.k.b) ∧ W.cell? ⟨w.heap.size, 8, none⟩ = some (.int .i64 t.r.k.c) ∧ W.cell? ⟨w.heap.size, 9, none⟩ = some (.int .i64 t.r.k.d) ∧ W.cell? ⟨w.heap.size, 10, none⟩ = some (.int .i64 t.r.k.e) ∧ W.cell? ⟨w.heap.size, 11, none⟩ = some (.int .i64 t.r.k.f) ∧ W.cell? ⟨w.heap.size, 12, none⟩ = some (u) ∧ W.cell? ⟨w.heap.size + 1, 0, none⟩ = some (.int .i64 lo.1) ∧ W.cell? ⟨w.heap.size + 1, 1, none⟩ = some (.int .i64 lo.2) ∧ W.cell? ⟨w.heap.size + 1 + 1, 0, none⟩ = some (.int .i64 hi.1) ∧ W.cell? ⟨w.heap.size + 1 + 1, 1, none⟩ = some (.int .i64 hi.2)) (exact KS.out _ (by (repeat' (first | (with_reducible exact Grew.refl _) | (with_reducible assumption) | (with_reducible refine Grew.alloc ?_ _ _) | (with_reducible refine Grew.drew ?_) | (with_reducible refine Grew.drewN ?_ _) | (with_reducible refine Grew.setCell ?_ ?_ _) | go_size))))
            (first
              | (go_at_call 15; refine (ST1.out _).mono ?_; rintro e w7 ⟨rfl, gn⟩; have GA : Grew wr w7 := Grew.trans (by (repeat' (first | (with_reducible exact Grew.refl _) | (with_reducible assumption) | (with_reducible refine Grew.alloc ?_ _ _) | (with_reducible refine Grew.drew ?_) | (with_reducible refine Grew.drewN ?_ _) | (with_reducible refine Grew.setCell ?_ ?_ _) | go_size))) gn; clear gn))
          all_goals
            clear KS ST1 W1 W2 W3 W4
            go_wp2_with fail
            try rw [MX.out]
            go_roundw
            case rel => exact ⟨P, k, s + 1, rfl, by first | rfl | rw [tm'], by omega, by omega, HW.out.trans (by (repeat' (first | (with_reducible exact Grew.refl _) | (with_reducible assumption) | (with_reducible refine Grew.alloc ?_ _ _) | (with_reducible refine Grew.drew ?_) | (with_reducible refine Grew.drewN ?_ _) | (with_reducible refine Grew.setCell ?_ ?_ _) | go_size))), Lib.hid (BW.out.grown (by (repeat' (first | (with_reducible exact Grew.refl _) | (with_reducible assumption) | (with_reducible refine Grew.alloc ?_ _ _) | (with_reducible refine Grew.drew ?_) | (with_reducible refine Grew.drewN ?_ _) | (with_reducible refine Grew.setCell ?_ ?_ _) | go_size)))), WT1⟩
            case measure => simp [intOf]; omega
    · have ht : ¬ T s ≤ d := fun h => hlt ((TL.out s s0).1 h)
      obtain rfl : s = S' + 1 := by omega
      obtain rfl : kf = k := DN.out P k WT.out
      clear WT
      obtain ⟨⟨t0, t1, t2, t3, t4, t5, t6, t7, t8, t9, t10, t11, t12⟩, ⟨l0, l1⟩, ⟨h0, h1⟩, q0, q1, q2⟩ := HT.out wr GW
      go_wp2_with fail
      refine (BF.out _ (G0.out.trans GW)).mono ?_
      rintro e w7 ⟨rfl, g7⟩
      have H1 := Lib.hid (BW.out.grown g7)
      have GW := GW.trans g7
      clear g7
      clear t0 t1 t2 t3 t4 t5 t6 t7 t8 t9 t10 t11 t12 l0 l1 h0 h1 q0 q1 q2 
      have pb := H1.out.lt
      have p0 := blkAt H1.out (i := 0) rfl
      have p1 := blkAt H1.out (i := 1) rfl
      have p2 := blkAt H1.out (i := 2) rfl
      have p3 := blkAt H1.out (i := 3) rfl
      have p4 := blkAt H1.out (i := 4) rfl
      have p5 := blkAt H1.out (i := 5) rfl
      have p6 := blkAt H1.out (i := 6) rfl
      have p7 := blkAt H1.out (i := 7) rfl
      have p8 := blkAt H1.out (i := 8) rfl
      go_wp2_with fail
      go_ret
      exact ⟨rfl, G0.out.trans (by (repeat' (first | (with_reducible exact Grew.refl _) | (with_reducible assumption) | (with_reducible refine Grew.alloc ?_ _ _) | (with_reducible refine Grew.drew ?_) | (with_reducible refine Grew.drewN ?_ _) | (with_reducible refine Grew.setCell ?_ ?_ _) | go_size)))⟩
theorem least_true (K : Hl.Code) (t : Ed) (u : Value) (lo hi : Pt) (c d : Int) (w : World) (hs : Rs w u t.l) (hl : t.l.length ≤ 9223372036854775807) :
    Calls Try.prog 4 #[tv t u, .agg #[.int .i64 lo.1, .int .i64 lo.2], .agg #[.int .i64 hi.1, .int .i64 hi.2], .int .i64 c, .int .i64 d] w fun e w' => e = .returned (.bool true) ∧ Grew w w' := by
  by_cases hu : Usb t lo hi c d
  · by_cases hb : hi.1 - lo.1 ≤ 20000 ∧ hi.2 - lo.2 ≤ 20000 ∧ d - c ≤ 7200
    · exact least_ok K t u lo hi c d w hs hl hu hb
    · exact least_big K t u lo hi c d w hs hl hu hb
  · exact least_bad K t u lo hi c d w hs hl hu
end Td
end Go.Proofs.Ytpiajdahmcelnaa
