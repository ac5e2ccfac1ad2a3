/-
  What package mink owes, and what the reference functions of layer 6 do: Sum, Shift, Mirror, Disk.
-/
import Derived.Test.YteglefjnbkocgaaMinkRef
namespace Go.Proofs.Yteglefjnbkocgaa
open Go.RowKit Hl
namespace Mk
set_option maxRecDepth 100000

def SumSays (p q : List Pt) (w : World) (e : Ending) (w' : World) : Prop := ∃ s, IsHull (sums p q) s ∧ ((¬ Plcs s ∧ Empty 3 w e w') ∨ (Plcs s ∧ ∃ v t, ((s.length ≤ 64 ∧ t = s) ∨ (64 < s.length ∧ IsOct s t)) ∧ e = .returned (.tuple #[v, .int .i64 0]) ∧ Sl w' v t ∧ Grew w w'))
def ShiftSays (p : List Pt) (z : Pt) (w : World) (e : Ending) (w' : World) : Prop := (¬ Plcs (shift p z) ∧ Empty 3 w e w') ∨ (Plcs (shift p z) ∧ ∃ v, e = .returned (.tuple #[v, .int .i64 0]) ∧ Sl w' v (shift p z) ∧ Grew w w')
def DiskSays (n : Int) (w : World) (e : Ending) (w' : World) : Prop := ∃ v m d, Wd n m ∧ IsHull (diskL n m) d ∧ e = .returned (.tuple #[v, .int .i64 0]) ∧ Sl w' v d ∧ Grew w w'
/-- What four functions owe. -/
structure Fns (fs fh fm fd : Nat) : Prop where
  sum_bad : ∀ (p q : List Pt) (v u : Value) (w : World), Sl w v p → Sl w u q → p.length ≤ 9223372036854775807 → q.length ≤ 9223372036854775807 → ¬ (Vl p ∧ Vl q) → Calls Try.prog fs #[v, u] w (Empty 1 w)
  sum_ok : ∀ (p q : List Pt) (v u : Value) (w : World), Sl w v p → Sl w u q → Vl p → Vl q → Calls Try.prog fs #[v, u] w (SumSays p q w)
  shift_bad : ∀ (p : List Pt) (z : Pt) (v : Value) (w : World), Sl w v p → p.length ≤ 9223372036854775807 → ¬ (Vl p ∧ Plc z) → Calls Try.prog fh #[v, .agg #[.int .i64 z.1, .int .i64 z.2]] w (Empty 1 w)
  shift_ok : ∀ (p : List Pt) (z : Pt) (v : Value) (w : World), Sl w v p → Vl p → Plc z → Calls Try.prog fh #[v, .agg #[.int .i64 z.1, .int .i64 z.2]] w (ShiftSays p z w)
  mir_bad : ∀ (p : List Pt) (v : Value) (w : World), Sl w v p → p.length ≤ 9223372036854775807 → ¬ Vl p → Calls Try.prog fm #[v] w (Empty 1 w)
  mir_ok : ∀ (p : List Pt) (v : Value) (w : World), Sl w v p → Vl p → Calls Try.prog fm #[v] w (MirSays p w)
  disk_bad : ∀ (n : Int) (w : World), ¬ (0 ≤ n ∧ n ≤ 100000) → Calls Try.prog fd #[.int .i64 n] w (Empty 1 w)
  disk_ok : ∀ (n : Int) (w : World), 0 ≤ n → n ≤ 100000 → Calls Try.prog fd #[.int .i64 n] w (DiskSays n w)

theorem r_mir_bad (p : List Pt) (v : Value) (w : World) (hs : Sl w v p) (h2 : p.length ≤ 9223372036854775807) (hv : ¬ Vl p) : Calls Try.prog 18 #[v] w (Empty 1 w) := by
  have V := Lib.hid hv
  have HS := Lib.hid hs
  have L2 := Lib.hid h2
  clear hs hv h2
  go_enter Try.func18, Try.ntmps18
  go_wp2_with fail
  refine ((rvalid_any p v _ HS.out L2.out).mono fun _ _ t => t.un V.out).mono ?_
  rintro e w1 ⟨rfl, G1⟩
  go_wp2_with fail
  go_ret2
  exact ⟨_, rfl, Or.inl ⟨rfl, none, 0, rfl⟩, G1⟩
theorem r_sum_bad (p q : List Pt) (v u : Value) (w : World) (hs : Sl w v p) (hs2 : Sl w u q) (h1 : p.length ≤ 9223372036854775807) (h2 : q.length ≤ 9223372036854775807) (h : ¬ (Vl p ∧ Vl q)) : Calls Try.prog 13 #[v, u] w (Empty 1 w) := by
  have HS := Lib.hid hs
  have HS2 := Lib.hid hs2
  have L1 := Lib.hid h1
  have L2 := Lib.hid h2
  by_cases hv : Vl p
  · have V := Lib.hid hv
    have V2 : Hid (¬ Vl q) := Lib.hid (fun g => h ⟨hv, g⟩)
    clear hs hs2 h1 h2 h hv
    go_enter Try.func13, Try.ntmps13
    go_wp2_with fail
    refine ((rvalid_any p v _ HS.out L1.out).mono fun _ _ t => t.to V.out).mono ?_
    rintro e w1 ⟨rfl, G1⟩
    go_wp2_with fail
    refine ((rvalid_any q u _ (HS2.out.grown G1) L2.out).mono fun _ _ t => t.un V2.out).mono ?_
    rintro e w2 ⟨rfl, G2⟩
    go_wp2_with fail
    go_ret2
    exact ⟨_, rfl, Or.inl ⟨rfl, none, 0, rfl⟩, Grew.trans G1 G2⟩
  · have V := Lib.hid hv
    clear hs hs2 h1 h2 h hv
    go_enter Try.func13, Try.ntmps13
    go_wp2_with fail
    refine ((rvalid_any p v _ HS.out L1.out).mono fun _ _ t => t.un V.out).mono ?_
    rintro e w1 ⟨rfl, G1⟩
    go_wp2_with fail
    go_ret2
    exact ⟨_, rfl, Or.inl ⟨rfl, none, 0, rfl⟩, G1⟩
theorem hull_ne {l s : List Pt} (h : IsHull l s) : 1 ≤ s.length := h.1.1
theorem sum_few {p q s : List Pt} (hp : Vl p) (hq : Vl q) (hs : IsHull (sums p q) s) : s.length ≤ 128 := by
  have := sum_count hp.pg hq.pg hs
  have := hp.1.2
  have := hq.1.2
  omega
theorem places_sl (s : List Pt) (v : Value) (w : World) (hs : Sl w v s) (h1 : 1 ≤ s.length) (h2 : s.length ≤ 9223372036854775807) : Calls Try.prog 32 #[v] w (Tells (Plcs s) w) := by
  obtain ⟨b, o, c, rfl, hr⟩ := hs.row (fun e => by rw [e] at h1; cases h1)
  exact places_6 s b o c w hr h2
theorem r_sum_ok (p q : List Pt) (v u : Value) (w : World) (hs : Sl w v p) (hs2 : Sl w u q) (hp : Vl p) (hq : Vl q) : Calls Try.prog 13 #[v, u] w (SumSays p q w) := by
  have HS := Lib.hid hs
  have HS2 := Lib.hid hs2
  have VP := Lib.hid hp
  have VQ := Lib.hid hq
  have L1 : Hid (p.length ≤ 9223372036854775807) := Lib.hid (by have := hp.1.2; omega)
  have L2 : Hid (q.length ≤ 9223372036854775807) := Lib.hid (by have := hq.1.2; omega)
  clear hs hs2 hp hq
  go_enter Try.func13, Try.ntmps13
  go_wp2_with fail
  refine ((rvalid_any p v _ HS.out L1.out).mono fun _ _ t => t.to VP.out).mono ?_
  rintro e w1 ⟨rfl, G1⟩
  go_wp2_with fail
  refine ((rvalid_any q u _ (HS2.out.grown G1) L2.out).mono fun _ _ t => t.to VQ.out).mono ?_
  rintro e w2 ⟨rfl, g2⟩
  have G2 := Grew.trans G1 g2
  clear G1 g2
  go_wp2_with fail
  refine (plus_6 p q v u _ (HS.out.grown G2) (HS2.out.grown G2) VP.out VQ.out).mono ?_
  rintro e w3 ⟨v3, s, hull, rfl, sl3, g3⟩
  have G3 := Grew.trans G2 g3
  have HH := Lib.hid hull
  have SL3 := Lib.hid sl3
  clear G2 g3 hull sl3
  by_cases hpl : Plcs s
  · have HP := Lib.hid hpl
    clear hpl
    go_wp2_with fail
    refine ((places_sl s v3 _ SL3.out (hull_ne HH.out) (by have := sum_few VP.out VQ.out HH.out; omega)).mono fun _ _ t => t.to HP.out).mono ?_
    rintro e w4 ⟨rfl, g4⟩
    have G4 := Grew.trans G3 g4
    have SL4 := Lib.hid (SL3.out.grown g4)
    clear G3 g4
    go_wp2_with fail
    refine (fewer_r s v3 _ SL4.out HP.out (hull_ne HH.out) (by have := sum_few VP.out VQ.out HH.out; omega)).mono ?_
    rintro e w5 ⟨v5, t, ht, rfl, sl5, g5⟩
    have HT := Lib.hid ht
    have SL5 := Lib.hid sl5
    clear ht sl5
    go_wp2_with fail
    go_ret2
    exact ⟨s, HH.out, Or.inr ⟨HP.out, v5, t, HT.out, rfl, SL5.out, Grew.trans G4 g5⟩⟩
  · have HP := Lib.hid hpl
    clear hpl
    go_wp2_with fail
    refine ((places_sl s v3 _ SL3.out (hull_ne HH.out) (by have := sum_few VP.out VQ.out HH.out; omega)).mono fun _ _ t => t.un HP.out).mono ?_
    rintro e w4 ⟨rfl, g4⟩
    go_wp2_with fail
    go_ret2
    exact ⟨s, HH.out, Or.inl ⟨HP.out, _, rfl, Or.inl ⟨rfl, none, 0, rfl⟩, Grew.trans G3 g4⟩⟩
theorem r_shift_bad (p : List Pt) (z : Pt) (v : Value) (w : World) (hs : Sl w v p) (h1 : p.length ≤ 9223372036854775807) (h : ¬ (Vl p ∧ Plc z)) : Calls Try.prog 16 #[v, .agg #[.int .i64 z.1, .int .i64 z.2]] w (Empty 1 w) := by
  have HS := Lib.hid hs
  have L1 := Lib.hid h1
  have g0 : Grew w (w.alloc (.cells #[.int .i64 z.1, .int .i64 z.2] 24)) := (Grew.refl w).alloc _ _
  by_cases hv : Vl p
  · have V := Lib.hid hv
    have V2 : Hid (¬ Plc z) := Lib.hid (fun g => h ⟨hv, g⟩)
    clear hs h1 h hv
    go_enter Try.func16, Try.ntmps16
    go_wp2_with fail
    refine ((rvalid_any p v _ (HS.out.grown g0) L1.out).mono fun _ _ t => t.to V.out).mono ?_
    rintro e w1 ⟨rfl, G1⟩
    obtain ⟨c1, f1, z1⟩ := laid G1
    try simp at z1
    have k0 : w1.cell? ⟨w.heap.size, 0, none⟩ = some (.int .i64 z.1) := by simp [go_sem, *]
    have k1 : w1.cell? ⟨w.heap.size, 1, none⟩ = some (.int .i64 z.2) := by simp [go_sem, *]
    clear c1 f1
    go_wp2_with fail
    refine (rplace_no z _ V2.out).mono ?_
    rintro e w2 ⟨rfl, g2⟩
    go_wp2_with fail
    go_ret2
    exact ⟨_, rfl, Or.inl ⟨rfl, none, 0, rfl⟩, Grew.trans (Grew.trans g0 G1) g2⟩
  · have V := Lib.hid hv
    clear hs h1 h hv
    go_enter Try.func16, Try.ntmps16
    go_wp2_with fail
    refine ((rvalid_any p v _ (HS.out.grown g0) L1.out).mono fun _ _ t => t.un V.out).mono ?_
    rintro e w1 ⟨rfl, G1⟩
    go_wp2_with fail
    go_ret2
    exact ⟨_, rfl, Or.inl ⟨rfl, none, 0, rfl⟩, Grew.trans g0 G1⟩
theorem r_shift_ok (p : List Pt) (z : Pt) (v : Value) (w : World) (hs : Sl w v p) (hp : Vl p) (hz : Plc z) : Calls Try.prog 16 #[v, .agg #[.int .i64 z.1, .int .i64 z.2]] w (ShiftSays p z w) := by
  have n0 : 1 ≤ p.length := hp.1.1
  obtain ⟨b, o, c, rfl, hr⟩ := hs.row (fun e => by rw [e] at n0; cases n0)
  have HS := Lib.hid hs
  have HR := Lib.hid hr
  have VP := Lib.hid hp
  have VZ := Lib.hid hz
  have L1 : Hid (p.length ≤ 9223372036854775807) := Lib.hid (by have := hp.1.2; omega)
  have g0 : Grew w (w.alloc (.cells #[.int .i64 z.1, .int .i64 z.2] 24)) := (Grew.refl w).alloc _ _
  clear hs hr hp hz n0
  go_enter Try.func16, Try.ntmps16
  go_wp2_with fail
  refine ((rvalid_any p _ _ (HS.out.grown g0) L1.out).mono fun _ _ t => t.to VP.out).mono ?_
  rintro e w1 ⟨rfl, G1⟩
  obtain ⟨c1, f1, z1⟩ := laid G1
  try simp at z1
  have k0 : w1.cell? ⟨w.heap.size, 0, none⟩ = some (.int .i64 z.1) := by simp [go_sem, *]
  have k1 : w1.cell? ⟨w.heap.size, 1, none⟩ = some (.int .i64 z.2) := by simp [go_sem, *]
  clear c1 f1
  go_wp2_with fail
  refine (rplace_yes z _ VZ.out).mono ?_
  rintro e w2 ⟨rfl, g2⟩
  obtain ⟨c2, f2, z2⟩ := laid g2
  try simp at z2
  have k0 : w2.cell? ⟨w.heap.size, 0, none⟩ = some (.int .i64 z.1) := by rw [g2.cell (by omega)]; exact k0
  have k1 : w2.cell? ⟨w.heap.size, 1, none⟩ = some (.int .i64 z.2) := by rw [g2.cell (by omega)]; exact k1
  have G2 := Grew.trans (Grew.trans g0 G1) g2
  clear c2 f2 G1 g2 g0
  go_wp2_with fail
  refine (moved_6 p z b o c _ (HR.out.grown G2) VP.out.2.1 VZ.out VP.out.1.2).mono ?_
  rintro e w3 ⟨v3, rfl, own3, g3⟩
  have SL3 := Lib.hid own3.sl
  have G3 := Grew.trans G2 g3
  have N3 : Hid (1 ≤ (shift p z).length ∧ (shift p z).length ≤ 64) := Lib.hid (by rw [shift_len]; exact VP.out.1)
  clear own3 g3 G2 k0 k1
  by_cases hpl : Plcs (shift p z)
  · have HP := Lib.hid hpl
    clear hpl
    go_wp2_with fail
    refine ((places_sl (shift p z) v3 _ SL3.out N3.out.1 (by have := N3.out.2; omega)).mono fun _ _ t => t.to HP.out).mono ?_
    rintro e w4 ⟨rfl, g4⟩
    have SL4 := Lib.hid (SL3.out.grown g4)
    go_wp2_with fail
    go_ret2
    exact Or.inr ⟨HP.out, v3, rfl, SL4.out, Grew.trans G3 g4⟩
  · have HP := Lib.hid hpl
    clear hpl
    go_wp2_with fail
    refine ((places_sl (shift p z) v3 _ SL3.out N3.out.1 (by have := N3.out.2; omega)).mono fun _ _ t => t.un HP.out).mono ?_
    rintro e w4 ⟨rfl, g4⟩
    go_wp2_with fail
    go_ret2
    exact Or.inl ⟨HP.out, _, rfl, Or.inl ⟨rfl, none, 0, rfl⟩, Grew.trans G3 g4⟩
theorem disk_pws {n m : Int} (h0 : 0 ≤ n) (h1 : n ≤ 100000) (h : Wd n m) : Pws (diskL n m) := fun i hi => by
  have r := wd_range h0 h
  have := at_mem hi
  generalize at' (diskL n m) i = y at this
  unfold diskL octL at this
  simp only [List.mem_cons, List.mem_nil_iff, or_false] at this
  unfold Pw
  rcases this with rfl | rfl | rfl | rfl | rfl | rfl | rfl | rfl <;> simp only <;> omega
theorem r_disk_bad (n : Int) (w : World) (h : ¬ (0 ≤ n ∧ n ≤ 100000)) : Calls Try.prog 20 #[.int .i64 n] w (Empty 1 w) := by
  by_cases h0 : n < 0
  · clear h
    go_enter Try.func20, Try.ntmps20
    go_wp2_with fail
    go_ret2
    exact ⟨_, rfl, Or.inl ⟨rfl, none, 0, rfl⟩, Grew.refl _⟩
  · have h1 : 100000 < n := by omega
    clear h
    go_enter Try.func20, Try.ntmps20
    go_wp2_with fail
    go_ret2
    exact ⟨_, rfl, Or.inl ⟨rfl, none, 0, rfl⟩, Grew.refl _⟩
def AroSays (n : Int) (w : World) (e : Ending) (w' : World) : Prop := ∃ v m d, Wd n m ∧ IsHull (diskL n m) d ∧ e = .returned v ∧ Sl w' v d ∧ Grew w w'
theorem around_6 (n : Int) (w : World) (h0 : 0 ≤ n) (h1 : n ≤ 100000) : Calls Try.prog 43 #[.int .i64 n] w (AroSays n w) := by
  have N0 := Lib.hid h0
  have N1 := Lib.hid h1
  go_enter Try.func43, Try.ntmps43
  go_wp2_with fail
  refine (wide_6 n _ N0.out N1.out).mono ?_
  rintro e w1 ⟨m, hm, rfl, rfl⟩
  obtain ⟨r1, r2⟩ := wd_range N0.out hm
  have HM := Lib.hid hm
  have EQ : Hid ((cellsOf (diskL n m)).toArray = #[.int .i64 n, .int .i64 (-(m - n)), .int .i64 n, .int .i64 (m - n), .int .i64 (m - n), .int .i64 n, .int .i64 (-(m - n)), .int .i64 n, .int .i64 (-n), .int .i64 (m - n), .int .i64 (-n), .int .i64 (-(m - n)), .int .i64 (-(m - n)), .int .i64 (-n), .int .i64 (m - n), .int .i64 (-n)]) := Lib.hid (by
    have e1 : -(m - n) = n - m := by omega
    have e2 : -n + m = m - n := by omega
    have e3 : -n - -m = m - n := by omega
    have e4 : -m - -n = -(m - n) := by omega
    unfold diskL octL cellsOf
    simp
    omega)
  have RN := Lib.hid (row_new (diskL n m) _ EQ.out w 24)
  clear hm
  go_wp2_with fail
  refine (around_w (diskL n m) _ _ _ _ RN.out (by simp [diskL, octL]) (by simp [diskL, octL]) (disk_pws N0.out N1.out HM.out)).mono ?_
  rintro e w2 ⟨v, d, hd, rfl, sl2, g2⟩
  have HD := Lib.hid hd
  have SL2 := Lib.hid sl2
  have G2 : Grew w w2 := Grew.trans ((Grew.refl w).alloc _ _) g2
  clear hd sl2 g2
  go_wp2_with fail
  go_ret
  exact ⟨v, m, d, HM.out, HD.out, rfl, SL2.out, G2⟩
theorem r_disk_ok (n : Int) (w : World) (h0 : 0 ≤ n) (h1 : n ≤ 100000) : Calls Try.prog 20 #[.int .i64 n] w (DiskSays n w) := by
  have N0 := Lib.hid h0
  have N1 := Lib.hid h1
  go_enter Try.func20, Try.ntmps20
  go_wp2_with fail
  refine (around_6 n _ N0.out N1.out).mono ?_
  rintro e w1 ⟨v, m, d, hm, hd, rfl, sl1, G1⟩
  have HM := Lib.hid hm
  have HD := Lib.hid hd
  have SL1 := Lib.hid sl1
  clear hm hd sl1
  go_wp2_with fail
  go_ret2
  exact ⟨v, m, d, HM.out, HD.out, rfl, SL1.out, G1⟩
theorem r_mir_ok (p : List Pt) (v : Value) (w : World) (hs : Sl w v p) (hp : Vl p) : Calls Try.prog 18 #[v] w (MirSays p w) := by
  exact mirror_6 p v w hs hp
theorem ref : Fns 13 16 18 20 where
  sum_bad := r_sum_bad
  sum_ok := r_sum_ok
  shift_bad := r_shift_bad
  shift_ok := r_shift_ok
  mir_bad := r_mir_bad
  mir_ok := r_mir_ok
  disk_bad := r_disk_bad
  disk_ok := r_disk_ok
end Mk
end Go.Proofs.Yteglefjnbkocgaa
