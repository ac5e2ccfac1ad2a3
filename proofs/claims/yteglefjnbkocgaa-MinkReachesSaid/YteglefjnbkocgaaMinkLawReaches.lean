/-
  The law MinkReaches, under what package mink owes.
-/
import Derived.Test.YteglefjnbkocgaaMinkUse
import Derived.Test.YteglefjnbkocgaaMinkFrame
namespace Go.Proofs.Yteglefjnbkocgaa
open Go.RowKit Hl
namespace Mk
def dl (a b : Int) : List Pt := [(1, 0), (0, 1), (1, 1), (1, -1), (a, b)]
theorem dl_bd (a b : Int) (a0 : -128 ≤ a) (a1 : a ≤ 127) (b0 : -128 ≤ b) (b1 : b ≤ 127) : ∀ m, m < (dl a b).length → (-128 ≤ (at' (dl a b) m).1 ∧ (at' (dl a b) m).1 ≤ 128) ∧ -128 ≤ (at' (dl a b) m).2 ∧ (at' (dl a b) m).2 ≤ 128 := fun m hm => by
  have hm : m < 5 := hm
  have : m = 0 ∨ m = 1 ∨ m = 2 ∨ m = 3 ∨ m = 4 := by omega
  rcases this with rfl | rfl | rfl | rfl | rfl
  · exact (show (-128 ≤ (1 : Int) ∧ (1 : Int) ≤ 128) ∧ -128 ≤ (0 : Int) ∧ (0 : Int) ≤ 128 by decide)
  · exact (show (-128 ≤ (0 : Int) ∧ (0 : Int) ≤ 128) ∧ -128 ≤ (1 : Int) ∧ (1 : Int) ≤ 128 by decide)
  · exact (show (-128 ≤ (1 : Int) ∧ (1 : Int) ≤ 128) ∧ -128 ≤ (1 : Int) ∧ (1 : Int) ≤ 128 by decide)
  · exact (show (-128 ≤ (1 : Int) ∧ (1 : Int) ≤ 128) ∧ -128 ≤ (-1 : Int) ∧ (-1 : Int) ≤ 128 by decide)
  · exact ⟨⟨a0, by show a ≤ 128; omega⟩, b0, by show b ≤ 128; omega⟩
theorem oct_dir {s r : List Pt} (h : IsOct s r) {u v m : Int} (hd : (u = 1 ∧ (v = -1 ∨ v = 0 ∨ v = 1)) ∨ ((u = -1 ∨ u = 0) ∧ v = 1) ∨ (u = -1 ∧ (v = -1 ∨ v = 0)) ∨ (u = 0 ∧ v = -1)) (hm : IsMin s u v m) : IsMin r u v m := by
  obtain ⟨a, b, c, d, s, t, i, j, h1, h2, h3, h4, h5, h6, h7, h8, hq⟩ := h
  obtain ⟨B, K⟩ := bd_of h1 h2 h3 h4 h5 h6 h7 h8
  obtain ⟨m1, m2, m3, m4, m5, m6, m7, m8⟩ := oct_min B hq
  rcases hd with ⟨rfl, rfl | rfl | rfl⟩ | ⟨rfl | rfl, rfl⟩ | ⟨rfl, rfl | rfl⟩ | ⟨rfl, rfl⟩
  · rw [hm.one h7]; exact m7
  · rw [hm.one h1]; exact m1
  · rw [hm.one h5]; exact m5
  · rw [hm.one h8]; exact m8
  · rw [hm.one h3]; exact m3
  · rw [hm.one h6]; exact m6
  · rw [hm.one h2]; exact m2
  · rw [hm.one h4]; exact m4
theorem reach_law {p q r : List Pt} (hp : Vl p) (hq : Vl q) (h : SumIs p q 0 r) {u v lo hi low high least most : Int} (l1 : IsMin p u v lo) (l2 : IsMin q u v low) (l3 : IsMin r u v least) (m1 : IsMin p (-u) (-v) (-hi)) (m2 : IsMin q (-u) (-v) (-high)) (m3 : IsMin r (-u) (-v) (-most))
    (hd : p.length + q.length ≤ 64 ∨ ((u = 1 ∧ -1 ≤ v ∧ v ≤ 1) ∨ (v = 1 ∧ -1 ≤ u ∧ u ≤ 1))) : least = lo + low ∧ most = hi + high := by
  obtain ⟨s, hs, hl, c⟩ := sum_good h ⟨hp, hq⟩
  have e1 := min_sum hs l1 l2
  have e2 := min_sum hs m1 m2
  rcases c with ⟨_, rfl⟩ | ⟨n, ho⟩
  · have := l3.one e1
    have := m3.one e2
    omega
  · rcases hd with hd | hd
    · have := sum_count hp.pg hq.pg hs
      exfalso; omega
    · have := l3.one (oct_dir ho (by omega) e1)
      have := m3.one (oct_dir ho (by omega) e2)
      omega
theorem min_bd {p : List Pt} (hp : Plcs p) {u v m : Int} (hu : -128 ≤ u ∧ u ≤ 128) (hv : -128 ≤ v ∧ v ≤ 128) (h : IsMin p u v m) : -128000000 ≤ m ∧ m ≤ 128000000 := by
  obtain ⟨⟨x, hx, e⟩, _⟩ := h
  obtain ⟨i, hi, ei⟩ := mem_at hx
  have := hp i hi
  rw [ei] at this
  have k1 := wide_bd hu this.1
  have k2 := wide_bd hv this.2
  omega
theorem run_max2 (a b : Int) : ∃ M : Int, (∀ (ts : Array TypeId) (t : TypeId) (W : World), Sem.run Try.prog (Builtin.max_ ts t #[.int .i64 a, .int .i64 b]) W = .ok (.int .i64 M) W) ∧ (a ≤ M ∧ b ≤ M ∧ (M = a ∨ M = b)) := by
  by_cases h1 : a < b
  · exact ⟨b, fun ts t W => by simp [Builtin.max_, Builtin.max2, h1], by omega⟩
  · exact ⟨a, fun ts t W => by simp [Builtin.max_, Builtin.max2, h1], by omega⟩
theorem run_min2 (a b : Int) : ∃ M : Int, (∀ (ts : Array TypeId) (t : TypeId) (W : World), Sem.run Try.prog (Builtin.min_ ts t #[.int .i64 a, .int .i64 b]) W = .ok (.int .i64 M) W) ∧ (M ≤ a ∧ M ≤ b ∧ (M = a ∨ M = b)) := by
  by_cases h1 : b < a
  · exact ⟨b, fun ts t W => by simp [Builtin.min_, Builtin.min2, h1], by omega⟩
  · exact ⟨a, fun ts t W => by simp [Builtin.min_, Builtin.min2, h1], by omega⟩
theorem bounds_sl (p : List Pt) (u v : Int) (hu : -128 ≤ u ∧ u ≤ 128) (hv : -128 ≤ v ∧ v ≤ 128) (x : Value) (w : World) (hs : Sl w x p) (hp : Vl p) : Calls Try.prog 26 #[x, .int .i64 u, .int .i64 v] w (BoundsSays p u v w) := by
  have n0 : 1 ≤ p.length := hp.1.1
  obtain ⟨b, o, c, rfl, hr⟩ := hs.row (fun e => by rw [e] at n0; cases n0)
  exact bounds_w p u v hu hv b o c w hr hp.2.1 n0 (by have := hp.1.2; omega)
set_option maxRecDepth 100000 in
set_option maxHeartbeats 4000000 in
theorem reaches_1 (F : Code) (p q : List Pt) (a b : Int) (_a0 : -128 ≤ a) (_a1 : a ≤ 127) (_b0 : -128 ≤ b) (_b1 : b ≤ 127) (va vb : Option Addr) (l m : Nat) (w : World) (P : Hid (Sl w (.slice va p.length l) p)) (Q : Hid (Sl w (.slice vb q.length m) q)) (LP : Hid (p.length ≤ 9223372036854775807)) (LQ : Hid (q.length ≤ 9223372036854775807)) (VN : Hid (¬ (Vl p ∧ Vl q))) : Calls Try.prog 5 #[.slice va p.length l, .slice vb q.length m, .int .i8 a, .int .i8 b] w fun e w' => e = .returned (.bool true) ∧ Grew w w' := by
  have P0 := P
  have Q0 := Q
  go_enter Try.func5, Try.ntmps5
  go_wp2_with fail
  refine (head_true F _).mono ?_
  rintro e w1 ⟨rfl, g1⟩
  have D1 : Grew w w1 := Grew.trans (by (repeat' (first | (with_reducible exact Grew.refl _) | (with_reducible assumption) | (with_reducible refine Grew.alloc ?_ _ _) | (with_reducible refine Grew.drew ?_) | (with_reducible refine Grew.drewN ?_ _) | (with_reducible refine Grew.setCell ?_ ?_ _) | go_size))) g1
  have G1 : Grew w w1 := D1
  have P1 := Lib.hid (P0.out.grown D1)
  have Q1 := Lib.hid (Q0.out.grown D1)
  clear P0 Q0
  clear g1 D1
  go_wp2_with fail
  refine (use_no p q _ _ _ P1.out Q1.out LP.out LQ.out VN.out).mono ?_
  rintro e w2 ⟨rfl, g2⟩
  have D2 : Grew w1 w2 := Grew.trans (by (repeat' (first | (with_reducible exact Grew.refl _) | (with_reducible assumption) | (with_reducible refine Grew.alloc ?_ _ _) | (with_reducible refine Grew.drew ?_) | (with_reducible refine Grew.drewN ?_ _) | (with_reducible refine Grew.setCell ?_ ?_ _) | go_size))) g2
  have G2 : Grew w w2 := Grew.trans G1 D2
  have P2 := Lib.hid (P1.out.grown D2)
  have Q2 := Lib.hid (Q1.out.grown D2)
  clear P1 Q1
  clear g2 D2 G1
  go_wp2_with fail
  go_ret
  exact ⟨rfl, G2⟩
set_option maxRecDepth 100000 in
set_option maxHeartbeats 4000000 in
theorem reaches_2 (F : Code) (p q : List Pt) (a b : Int) (a0 : -128 ≤ a) (a1 : a ≤ 127) (b0 : -128 ≤ b) (b1 : b ≤ 127) (va vb : Option Addr) (l m : Nat) (w : World) (P : Hid (Sl w (.slice va p.length l) p)) (Q : Hid (Sl w (.slice vb q.length m) q)) (LP : Hid (p.length ≤ 9223372036854775807)) (LQ : Hid (q.length ≤ 9223372036854775807)) (VP : Hid (Vl p)) (VQ : Hid (Vl q)) (p2 : p.length ≤ 64) (q2 : q.length ≤ 64) : Calls Try.prog 5 #[.slice va p.length l, .slice vb q.length m, .int .i8 a, .int .i8 b] w fun e w' => e = .returned (.bool true) ∧ Grew w w' := by
  have P0 := P
  have Q0 := Q
  go_enter Try.func5, Try.ntmps5
  go_wp2_with fail
  refine (head_true F _).mono ?_
  rintro e w1 ⟨rfl, g1⟩
  have D1 : Grew w w1 := Grew.trans (by (repeat' (first | (with_reducible exact Grew.refl _) | (with_reducible assumption) | (with_reducible refine Grew.alloc ?_ _ _) | (with_reducible refine Grew.drew ?_) | (with_reducible refine Grew.drewN ?_ _) | (with_reducible refine Grew.setCell ?_ ?_ _) | go_size))) g1
  have G1 : Grew w w1 := D1
  have P1 := Lib.hid (P0.out.grown D1)
  have Q1 := Lib.hid (Q0.out.grown D1)
  clear P0 Q0
  clear g1 D1
  go_wp2_with fail
  refine (use_yes p q _ _ _ P1.out Q1.out LP.out LQ.out VP.out VQ.out).mono ?_
  rintro e w2 ⟨rfl, g2⟩
  have D2 : Grew w1 w2 := Grew.trans (by (repeat' (first | (with_reducible exact Grew.refl _) | (with_reducible assumption) | (with_reducible refine Grew.alloc ?_ _ _) | (with_reducible refine Grew.drew ?_) | (with_reducible refine Grew.drewN ?_ _) | (with_reducible refine Grew.setCell ?_ ?_ _) | go_size))) g2
  have G2 : Grew w w2 := Grew.trans G1 D2
  have P2 := Lib.hid (P1.out.grown D2)
  have Q2 := Lib.hid (Q1.out.grown D2)
  clear P1 Q1
  clear g2 D2 G1
  go_wp2_with fail
  refine (F.sum p q _ _ _ P2.out Q2.out LP.out LQ.out).mono ?_
  rintro e w3 ⟨v1, k1, r, i1, rfl, s1, g3⟩
  have D3 : Grew w2 w3 := Grew.trans (by (repeat' (first | (with_reducible exact Grew.refl _) | (with_reducible assumption) | (with_reducible refine Grew.alloc ?_ _ _) | (with_reducible refine Grew.drew ?_) | (with_reducible refine Grew.drewN ?_ _) | (with_reducible refine Grew.setCell ?_ ?_ _) | go_size))) g3
  have G3 : Grew w w3 := Grew.trans G2 D3
  have P3 := Lib.hid (P2.out.grown D3)
  have Q3 := Lib.hid (Q2.out.grown D3)
  clear P2 Q2
  clear g3 D3 G2
  have A3 := Lib.hid s1
  clear s1
  have hk : k1 = 0 ∨ k1 = 3 := by rcases sum_keys i1 ⟨VP.out, VQ.out⟩ with e | ⟨e, _⟩ <;> omega
  have I1 := Lib.hid i1
  clear i1
  rcases hk with rfl | rfl
  · have VR := Lib.hid (sums_law VP.out VQ.out I1.out).1
    have r1 : 1 ≤ r.length := VR.out.1.1
    have r2 : r.length ≤ 64 := VR.out.1.2
    have r3 : ((r.length : Int) == 0) = false := by rw [beq_eq_false_iff_ne]; omega
    obtain ⟨ra, rc, rfl⟩ := A3.out.shape
    have D0 : Hid (Row (w3.alloc (.cells #[.int .i64 1, .int .i64 0, .int .i64 0, .int .i64 1, .int .i64 1, .int .i64 1, .int .i64 1, .int .i64 (-1), .int .i64 a, .int .i64 b] 41)) w3.heap.size 0 (dl a b)) := Lib.hid (row_new (dl a b) _ rfl _ _)
    go_wp2_with fail
    go_loopw [9, 49] (fun u i wr => ∃ m : Nat, m ≤ 5 ∧ u = .bool true ∧ i = .int .i64 m ∧ Grew (w3.alloc (.cells #[.int .i64 1, .int .i64 0, .int .i64 0, .int .i64 1, .int .i64 1, .int .i64 1, .int .i64 1, .int .i64 (-1), .int .i64 a, .int .i64 b] 41)) wr) (fun _ i _ => 5 - (intOf i).toNat)
    case atStart => exact ⟨0, Nat.zero_le _, rfl, rfl, Grew.refl _⟩
    case round =>
      obtain ⟨m, hm, rfl, rfl, G⟩ := hrel
      by_cases hlt : m < 5
      · have GG : Grew w3 wr := Grew.trans ((Grew.refl _).alloc _ _) G
        have PP := Lib.hid (P3.out.grown GG)
        have QQ := Lib.hid (Q3.out.grown GG)
        have AA := Lib.hid (A3.out.grown GG)
        have hbk : w3.heap.size < wr.heap.size := by have := G.size; simp only [World.size_alloc] at this; omega
        obtain ⟨s0, s1⟩ := (D0.out.grown G).2 m hlt
        rw [Nat.zero_add] at s0 s1
        obtain ⟨hu, hv⟩ := dl_bd a b a0 a1 b0 b1 m hlt
        obtain ⟨u, eu⟩ : ∃ u, (at' (dl a b) m).1 = u := ⟨_, rfl⟩
        obtain ⟨v, ev⟩ : ∃ v, (at' (dl a b) m).2 = v := ⟨_, rfl⟩
        rw [eu] at s0 hu
        rw [ev] at s1 hv
        clear eu ev
        have HU := Lib.hid hu
        have HV := Lib.hid hv
        obtain ⟨M, HM, hM⟩ := run_max2 u v
        have HM' : ∀ W, Sem.run Try.prog (Builtin.max_ #[3, 3] 3 #[.int .i64 u, .int .i64 v]) W = .ok (.int .i64 M) W := HM _ _
        obtain ⟨N, HN, hN⟩ := run_min2 u v
        have HN' : ∀ W, Sem.run Try.prog (Builtin.min_ #[3, 3] 3 #[.int .i64 u, .int .i64 v]) W = .ok (.int .i64 N) W := HN _ _
        have hMN := Lib.hid (And.intro hM hN)
        clear HM HN hM hN hu hv
        have i0 : (0 : Int) ≤ (m : Int) := by omega
        have i1 : (m : Int) < 5 := by omega
        go_wp2_with fail
        refine (bounds_sl p u v HU.out HV.out _ _ (PP.out.grown (by (repeat' (first | (with_reducible exact Grew.refl _) | (with_reducible assumption) | (with_reducible refine Grew.alloc ?_ _ _) | (with_reducible refine Grew.drew ?_) | (with_reducible refine Grew.drewN ?_ _) | (with_reducible refine Grew.setCell ?_ ?_ _) | go_size)))) VP.out).mono ?_
        rintro e y1 ⟨lo, hi, j1, t1, rfl, h1⟩
        have J1 := Lib.hid (And.intro j1 t1)
        have B1 := min_bd VP.out.2.1 HU.out HV.out j1
        have B2 := min_bd VP.out.2.1 (by have := HU.out; omega) (by have := HV.out; omega) t1
        clear j1 t1
        have H1 : Grew wr y1 := Grew.trans (by (repeat' (first | (with_reducible exact Grew.refl _) | (with_reducible assumption) | (with_reducible refine Grew.alloc ?_ _ _) | (with_reducible refine Grew.drew ?_) | (with_reducible refine Grew.drewN ?_ _) | (with_reducible refine Grew.setCell ?_ ?_ _) | go_size))) h1
        have k0 : y1.cell? ⟨wr.heap.size, 0, none⟩ = some (.int .i64 u) := by rw [h1.cell (by simp only [World.size_alloc]; omega)]; simp [go_sem, *]
        have k1 : y1.cell? ⟨wr.heap.size, 1, none⟩ = some (.int .i64 v) := by rw [h1.cell (by simp only [World.size_alloc]; omega)]; simp [go_sem, *]
        have z1 : wr.heap.size < y1.heap.size := by have := h1.size; simp only [World.size_alloc] at this; omega
        have z1a : wr.heap.size < y1.heap.size + 1 := by omega
        clear h1 s0 s1
        go_wp2_with fail
        refine (bounds_sl q u v HU.out HV.out _ _ (QQ.out.grown H1) VQ.out).mono ?_
        rintro e y2 ⟨low, high, j2, t2, rfl, h2⟩
        have J2 := Lib.hid (And.intro j2 t2)
        have C2 := min_bd VQ.out.2.1 HU.out HV.out j2
        have E2 := min_bd VQ.out.2.1 (by have := HU.out; omega) (by have := HV.out; omega) t2
        clear j2 t2
        have H2 : Grew wr y2 := Grew.trans H1 h2
        have k0' : y2.cell? ⟨wr.heap.size, 0, none⟩ = some (.int .i64 u) := by rw [h2.cell (by omega)]; exact k0
        have k1' : y2.cell? ⟨wr.heap.size, 1, none⟩ = some (.int .i64 v) := by rw [h2.cell (by omega)]; exact k1
        have z2 : wr.heap.size < y2.heap.size := by have := h2.size; omega
        clear h2 k0 k1
        have k0 := k0'
        have k1 := k1'
        clear k0' k1'
        go_wp2_with fail
        refine (bounds_sl r u v HU.out HV.out _ _ (AA.out.grown H2) VR.out).mono ?_
        rintro e y3 ⟨least, most, j3, t3, rfl, h3⟩
        have J3 := Lib.hid (And.intro j3 t3)
        have C3 := min_bd VR.out.2.1 HU.out HV.out j3
        have E3 := min_bd VR.out.2.1 (by have := HU.out; omega) (by have := HV.out; omega) t3
        clear j3 t3
        have H3 : Grew wr y3 := Grew.trans H2 h3
        have k0' : y3.cell? ⟨wr.heap.size, 0, none⟩ = some (.int .i64 u) := by rw [h3.cell (by omega)]; exact k0
        have k1' : y3.cell? ⟨wr.heap.size, 1, none⟩ = some (.int .i64 v) := by rw [h3.cell (by omega)]; exact k1
        have z3 : wr.heap.size < y3.heap.size := by have := h3.size; omega
        clear h3 k0 k1
        have k0 := k0'
        have k1 := k1'
        clear k0' k1'
        have hcase : p.length + q.length ≤ 64 ∨ (64 < p.length + q.length ∧ M = 1 ∧ -1 ≤ N) ∨ (64 < p.length + q.length ∧ M = 1 ∧ N < -1) ∨ (64 < p.length + q.length ∧ M ≠ 1) := by omega
        rcases hcase with hc | ⟨hc, rfl, hn⟩ | ⟨hc, rfl, hn⟩ | ⟨hc, hm1⟩
        · have hc' : (p.length : Int) + (q.length : Int) ≤ 64 := by omega
          obtain ⟨rfl, rfl⟩ := reach_law VP.out VQ.out I1.out J1.out.1 J2.out.1 J3.out.1 J1.out.2 J2.out.2 J3.out.2 (Or.inl hc)
          clear J1 J2 J3 hMN
          go_wp2_with fail
          go_roundw
          case rel => exact ⟨m + 1, by omega, rfl, by go_num, Grew.trans G H3⟩
          case measure => simp [intOf]; omega
        · have hc' : (64 : Int) < (p.length : Int) + (q.length : Int) := by omega
          obtain ⟨rfl, rfl⟩ := reach_law VP.out VQ.out I1.out J1.out.1 J2.out.1 J3.out.1 J1.out.2 J2.out.2 J3.out.2 (Or.inr (by have := hMN.out; omega))
          clear J1 J2 J3 hMN
          go_wp2_with fail
          go_roundw
          case rel => exact ⟨m + 1, by omega, rfl, by go_num, Grew.trans G H3⟩
          case measure => simp [intOf]; omega
        · have hc' : (64 : Int) < (p.length : Int) + (q.length : Int) := by omega
          go_wp2_with fail
          go_roundw
          case rel => exact ⟨m + 1, by omega, rfl, by go_num, Grew.trans G H3⟩
          case measure => simp [intOf]; omega
        · have hc' : (64 : Int) < (p.length : Int) + (q.length : Int) := by omega
          have hm2 : (M == 1) = false := by rw [beq_eq_false_iff_ne]; exact hm1
          go_wp2_with fail
          go_roundw
          case rel => exact ⟨m + 1, by omega, rfl, by go_num, Grew.trans G H3⟩
          case measure => simp [intOf]; omega
      · go_wp2_with fail
        go_ret
        exact ⟨rfl, Grew.trans (Grew.trans G3 ((Grew.refl _).alloc _ _)) G⟩
  · go_wp2_with fail
    go_ret
    exact ⟨rfl, G3⟩
theorem reaches_true (F : Code) (p q : List Pt) (a b : Int) (a0 : -128 ≤ a) (a1 : a ≤ 127) (b0 : -128 ≤ b) (b1 : b ≤ 127) (v u : Value) (w : World) (hs : Sl w v p) (hu : Sl w u q) (h1 : p.length ≤ 9223372036854775807) (h2 : q.length ≤ 9223372036854775807) : Calls Try.prog 5 #[v, u, .int .i8 a, .int .i8 b] w fun e w' => e = .returned (.bool true) ∧ Grew w w' := by
  obtain ⟨va, l, rfl⟩ := hs.shape
  obtain ⟨vb, m, rfl⟩ := hu.shape
  by_cases hv : Vl p ∧ Vl q
  · exact reaches_2 F p q a b a0 a1 b0 b1 va vb l m w (Lib.hid hs) (Lib.hid hu) (Lib.hid h1) (Lib.hid h2) (Lib.hid hv.1) (Lib.hid hv.2) hv.1.1.2 hv.2.1.2
  · exact reaches_1 F p q a b a0 a1 b0 b1 va vb l m w (Lib.hid hs) (Lib.hid hu) (Lib.hid h1) (Lib.hid h2) (Lib.hid hv)
end Mk
end Go.Proofs.Yteglefjnbkocgaa
