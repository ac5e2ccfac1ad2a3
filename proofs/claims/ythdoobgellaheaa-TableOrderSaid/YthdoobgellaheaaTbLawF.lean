/-
  The law TableOrder.
-/
import Derived.Test.YthdoobgellaheaaTbPut
import Derived.BigRegion
namespace Go.Proofs.Ythdoobgellaheaa
open Go.RowKit Wd
namespace Tb
set_option maxRecDepth 100000
set_option maxHeartbeats 2000000 in
/-- Without a usable table, or with less than two rows: the example alone. -/
theorem order_bad (l : List Rw) (x t a s : Int) (v : Value) (w : World) (hs : Rs w v l) (hl : l.length ≤ 9223372036854775807) (hb : ¬ ((Tbl l ∧ Us t a s) ∧ 2 ≤ l.length)) :
    Calls Try.prog 9 #[v, .int .u8 x, .int .i64 t, .int .i64 a, .int .i64 s] w fun e w' => e = .returned (.bool true) ∧ Grew w w' := by
  have HD := Lib.hid head_true
  have U : ∀ W, Grew w W → _ := fun W g => usable_c l t a s v W (hs.grew g)
  obtain ⟨sa, sc, rfl, hsc⟩ := hs.shape
  by_cases h : Tbl l ∧ Us t a s
  · have hn : (l.length : Int) < 2 := by have : ¬ 2 ≤ l.length := fun k => hb ⟨h, k⟩; omega
    rw [decide_eq_true h] at U
    have UC := Lib.hid U
    clear U hs hb h
    go_enter Try.func9, Try.ntmps9
    go_wp2_with fail
    refine (HD.out _).mono ?_
    rintro e0 w0 ⟨rfl, g0⟩
    clear HD
    go_wp2_with fail
    refine (UC.out _ g0).mono ?_
    rintro e1 w1 ⟨rfl, g1'⟩
    have g1 := g0.trans g1'
    clear g0 g1' UC
    go_wp2_with fail
    go_ret
    exact ⟨rfl, g1⟩
  · rw [decide_eq_false h] at U
    have UC := Lib.hid U
    clear U hs hb h
    go_enter Try.func9, Try.ntmps9
    go_wp2_with fail
    refine (HD.out _).mono ?_
    rintro e0 w0 ⟨rfl, g0⟩
    clear HD
    go_wp2_with fail
    refine (UC.out _ g0).mono ?_
    rintro e1 w1 ⟨rfl, g1'⟩
    have g1 := g0.trans g1'
    clear g0 g1' UC
    go_wp2_with fail
    go_ret
    exact ⟨rfl, g1⟩
/-- The place of the law. -/
theorem place_two (n : Nat) (h2 : 2 ≤ n) (y : Int) (hy : 0 ≤ y) : ∃ m : Nat, y.tmod ((n : Int) - 1) = (m : Int) ∧ m + 1 < n := by
  have e1 : y.tmod ((n : Int) - 1) = y % ((n : Int) - 1) := Int.tmod_eq_emod_of_nonneg hy
  have p1 := Int.emod_nonneg y (b := (n : Int) - 1) (by omega)
  have p2 := Int.emod_lt_of_pos y (b := (n : Int) - 1) (by omega)
  exact ⟨(y % ((n : Int) - 1)).toNat, by rw [e1]; exact (Int.toNat_of_nonneg p1).symm, by omega⟩
/-- What an own slice with rows is. -/
theorem Ow.form {B : Nat} {w : World} {v : Value} {l : List Rw} (h : Ow B w v l) (h0 : 0 < l.length) : ∃ g c, v = .slice (some ⟨g, 0, none⟩) l.length c ∧ l.length ≤ c ∧ B ≤ g ∧ Row w g 0 l ∧ (∀ o, w.frozen? ⟨g, o, none⟩ = false) := by
  have hc := fun g => World.ownsRow.cells (g := g) h
  rcases h.2 with ⟨_, h1⟩ | ⟨g, cap, cur, rfl, hB, hg, hcap, _⟩
  · omega
  · refine ⟨g, cap, rfl, hcap, hB, ⟨(Array.getElem?_eq_some_iff.1 hg).1, fun j u hu => ?_⟩, fun o => by simp [World.frozen?, hg]⟩
    have := hc g rfl j u hu
    rwa [add_off] at this
set_option maxHeartbeats 16000000 in
theorem order_ok (l : List Rw) (x t a s : Int) (v : Value) (w : World) (hs : Rs w v l) (ht : Tbl l) (hu : Us t a s) (h2 : 2 ≤ l.length) (hx : 0 ≤ x ∧ x ≤ 255) :
    Calls Try.prog 9 #[v, .int .u8 x, .int .i64 t, .int .i64 a, .int .i64 s] w fun e w' => e = .returned (.bool true) ∧ Grew w w' := by
  have HD := Lib.hid head_true
  have U : ∀ W, Grew w W → _ := fun W g => usable_c l t a s v W (hs.grew g)
  rw [decide_eq_true ⟨ht, hu⟩] at U
  have UC := Lib.hid U
  obtain ⟨m, hm, kn⟩ := place_two l.length h2 x hx.1
  obtain ⟨sa, sc, rfl, hsc⟩ := hs.shape
  obtain ⟨b, o, rfl, hr⟩ := hs.row (by omega)
  have HR := Lib.hid hr
  have HS := Lib.hid hs
  have HT := Lib.hid ht
  have HU := Lib.hid hu
  have l5 : l.length ≤ 50 := ht.1
  clear U hs hr ht hu
  generalize hn : l.length = n at *
  have HN := Lib.hid hn
  clear hn
  have nz : (n : Int) - 1 ≠ 0 := by omega
  have n2 : ¬ (n : Int) < 2 := by omega
  obtain ⟨k, hk⟩ : ∃ k : Nat, 1 + (m : Int) = (k : Int) := ⟨1 + m, by omega⟩
  have hk1 : (k : Int) - 1 = (m : Int) := by omega
  go_enter Try.func9, Try.ntmps9
  go_wp2_with fail
  refine (HD.out _).mono ?_
  rintro e0 w0 ⟨rfl, g0⟩
  clear HD
  go_wp2_with fail
  refine (UC.out _ g0).mono ?_
  rintro e1 w1 ⟨rfl, g1'⟩
  have g1 := g0.trans g1'
  clear g0 g1' UC
  have K1 := Lib.hid (HS.out.grew (g1.alloc #[] 32))
  have OE := Lib.hid (Ow.made w1 (Nat.le_refl _))
  go_wp2_with (at_builtin; (refine wpl_rows _ rfl _ _ rfl w1.heap.size _ _ [] l rfl OE.out rfl K1.out (by have := HN.out; rw [List.length_nil]; omega) (by rw [World.size_alloc]; omega) ?_; intro v4 w4 own4 gr4; have OW4 := Lib.hid own4; have S4 : Grew w1 w4 := OE.out.app_grew gr4 (Nat.le_refl _) ((Grew.refl w1).alloc _ _); clear own4 gr4))
  have OF : Ow w1.heap.size w4 v4 l := OW4.out
  obtain ⟨g, c, hv, hc, hB, RW, FZ⟩ := OF.form (by have := HN.out; omega)
  rw [HN.out] at hv hc
  subst hv
  obtain ⟨q0, q1, q2, q3, q4, q5⟩ := RW.at (i := m) (by have := HN.out; omega)
  obtain ⟨p0, p1, p2, p3, p4, p5⟩ := RW.at (i := k) (by have := HN.out; omega)
  simp only [Nat.zero_add] at q0 q1 q2 q3 q4 q5 p0 p1 p2 p3 p4 p5
  have RH := Lib.hid RW
  have FH := Lib.hid FZ
  have f10 := FZ (m * 6)
  have f11 := FZ (m * 6 + 1)
  have f12 := FZ (m * 6 + 2)
  have f13 := FZ (m * 6 + 3)
  have f14 := FZ (m * 6 + 4)
  have f15 := FZ (m * 6 + 5)
  have f20 := FZ (k * 6)
  have f21 := FZ (k * 6 + 1)
  have f22 := FZ (k * 6 + 2)
  have f23 := FZ (k * 6 + 3)
  have f24 := FZ (k * 6 + 4)
  have f25 := FZ (k * 6 + 5)
  have WM : IntKind.i64.wrap (m : Int) = (m : Int) := IntWalk.i64_in _ ⟨by omega, by omega⟩
  have G4 := g1.trans S4
  have WK : IntKind.i64.wrap ((k : Int) - 1) = (m : Int) := by rw [hk1]; exact IntWalk.i64_in _ ⟨by omega, by omega⟩
  have i0 : (0 : Int) ≤ (k : Int) := by omega
  have i1 : (k : Int) < (n : Int) := by omega
  have i2 : (0 : Int) ≤ (m : Int) := by omega
  have i3 : (m : Int) < (n : Int) := by omega
  have hg := RW.1
  have KM : Hid (k = m + 1) := Lib.hid (by omega)
  clear OF OW4 RW FZ K1 OE S4 hm hk nz
  generalize er : ith l m = r at *
  generalize er' : ith l k = r' at *
  have ER := Lib.hid er
  have ER' := Lib.hid er'
  clear er er'
  go_region
  have lg : w.heap.size ≤ g := Nat.le_trans g1.size hB
  have kl : k < l.length := by have := HN.out; omega
  have ml : m < l.length := by have := HN.out; omega
  have GX : Grew w (put6 (put6 w4 g (m * 6) r') g (k * 6) r).drew := (put6_grew (put6_grew G4 lg r') lg r).drew
  have RX : Row (put6 (put6 w4 g (m * 6) r') g (k * 6) r).drew g 0 (swap l k) := by
    have h := (RH.out.put ml r').put (i := k) (by rw [List.length_set]; exact kl) r
    have e : (l.set m r').set k r = swap l k := by
      have e1 := swap_set (l := l) (k := k) (by omega) kl
      rw [show k - 1 = m by omega, ER.out, ER'.out] at e1
      exact e1
    rw [e] at h
    exact h.grew (Grew.refl _).drew
  obtain ⟨W, hW⟩ : ∃ W, W = (put6 (put6 w4 g (m * 6) r') g (k * 6) r).drew := ⟨_, rfl⟩
  rw [← hW] at GX RX
  unfold put6 at hW
  rw [← hW]
  clear hW q0 q1 q2 q3 q4 q5 p0 p1 p2 p3 p4 p5 f10 f11 f12 f13 f14 f15 f20 f21 f22 f23 f24 f25 G4 hg RH FH lg g1 hB
  have RO : Rs W (.slice (some ⟨g, 0, none⟩) n c) (swap l k) := ⟨_, _, by rw [swap_len (by omega) kl, HN.out], by rw [swap_len (by omega) kl, HN.out]; exact hc, Or.inr ⟨g, 0, rfl, RX⟩⟩
  have RS := Lib.hid RO
  have KL := Lib.hid kl
  obtain ⟨q0, q1, q2, q3, q4, q5⟩ := (HR.out.grew GX).at ml
  obtain ⟨p0, p1, p2, p3, p4, p5⟩ := (HR.out.grew GX).at kl
  rw [ER.out] at q0 q1
  rw [ER'.out] at p0 p1
  clear RO RX kl ml q2 q3 q4 q5 p2 p3 p4 p5
  by_cases c0 : r.lo ≤ r'.hi
  · by_cases c1 : r'.lo ≤ r.hi
    · go_wp2_with fail
      go_quiet (fail)
      go_wp2_with fail
      go_ret
      exact ⟨rfl, GX.drewN _⟩
    · have d1 : decide (r'.lo ≤ r.hi) = false := decide_eq_false c1
      have SY : Hid (sy t a s l = sy t a s (swap l k)) := Lib.hid (swap_sy (by have := KM.out; omega) KL.out (by rw [show k - 1 = m by have := KM.out; omega, ER.out, ER'.out]; exact fun h => c1 h.2))
      have SC : Hid (∀ X, Grew W X → _) := Lib.hid (fun X gx => same_c l (swap l k) t a s _ _ X (HS.out.grew (GX.trans gx)) (RS.out.grew gx) HT.out (HT.out.swap (by have := KM.out; omega) KL.out) HU.out SY.out)
      clear SY RS KL ER ER' HT HU HS HR HN KM
      go_wp2_with fail
      go_quiet (fail)
      go_wp2_with fail
      refine (SC.out _ ((Grew.refl W).drewN _)).mono ?_
      rintro e6 w6 ⟨rfl, g6⟩
      go_wp2_with fail
      go_ret
      exact ⟨rfl, (GX.drewN _).trans g6⟩
  · have d0 : decide (r.lo ≤ r'.hi) = false := decide_eq_false c0
    have SY : Hid (sy t a s l = sy t a s (swap l k)) := Lib.hid (swap_sy (by have := KM.out; omega) KL.out (by rw [show k - 1 = m by have := KM.out; omega, ER.out, ER'.out]; exact fun h => c0 h.1))
    have SC : Hid (∀ X, Grew W X → _) := Lib.hid (fun X gx => same_c l (swap l k) t a s _ _ X (HS.out.grew (GX.trans gx)) (RS.out.grew gx) HT.out (HT.out.swap (by have := KM.out; omega) KL.out) HU.out SY.out)
    clear SY RS KL ER ER' HT HU HS HR HN KM
    go_wp2_with fail
    go_quiet (fail)
    go_wp2_with fail
    refine (SC.out _ ((Grew.refl W).drewN _)).mono ?_
    rintro e6 w6 ⟨rfl, g6⟩
    go_wp2_with fail
    go_ret
    exact ⟨rfl, (GX.drewN _).trans g6⟩
theorem order_true (l : List Rw) (x t a s : Int) (v : Value) (w : World) (hs : Rs w v l) (hl : l.length ≤ 9223372036854775807) (hx : 0 ≤ x ∧ x ≤ 255) :
    Calls Try.prog 9 #[v, .int .u8 x, .int .i64 t, .int .i64 a, .int .i64 s] w fun e w' => e = .returned (.bool true) ∧ Grew w w' := by
  by_cases h : (Tbl l ∧ Us t a s) ∧ 2 ≤ l.length
  · exact order_ok l x t a s v w hs h.1.1 h.1.2 h.2 hx
  · exact order_bad l x t a s v w hs hl h
end Tb
end Go.Proofs.Ythdoobgellaheaa
