/-
  The law CodecChanged, under what package codec owes.
-/
import Derived.Test.YtljmdpjjieoedaaDoorCodLawE
namespace Go.Proofs.YtljmdpjjieoedaaDoor
open Go.RowKit Wd
namespace Co
set_option maxRecDepth 100000

theorem bv_u8 (x : UInt8) : BitVec.ofInt 8 (x.toNat : Int) = x.toBitVec := by
  rw [BitVec.ofInt_natCast, show x.toNat = x.toBitVec.toNat from rfl, BitVec.ofNat_toNat, BitVec.setWidth_eq]
theorem xor_u8 (x y : UInt8) : bits .xor .u8 (x.toNat : Int) (y.toNat : Int) = ((x ^^^ y).toNat : Int) := by
  have e : bits .xor .u8 (x.toNat : Int) (y.toNat : Int) = IntKind.u8.wrap ((BitVec.ofInt 8 (x.toNat : Int) ^^^ BitVec.ofInt 8 (y.toNat : Int)).toNat : Int) := rfl
  have h := (x ^^^ y).toNat_lt
  rw [e, bv_u8, bv_u8, ← UInt8.toBitVec_xor, show (x ^^^ y).toBitVec.toNat = (x ^^^ y).toNat from rfl, IntKind.wrap_u8]
  omega
theorem xor_ne {x y : UInt8} (h : y.toNat ≠ 0) : x ^^^ y ≠ x := by
  intro e
  have h1 : x ^^^ (x ^^^ y) = x ^^^ x := by rw [e]
  rw [← UInt8.xor_assoc, UInt8.xor_self, UInt8.zero_xor] at h1
  rw [h1] at h
  exact h rfl
/-- One byte stored into a slice of its own. -/
theorem bs_set (W : World) (l : List UInt8) (k : Nat) (hk : k < l.length) (y : UInt8) (g c : Nat) (hc : l.length ≤ c) (hg : g < W.heap.size) (h : ∀ j (hj : j < l.length), W.cell? ⟨g, j, none⟩ = some (.int .u8 (l[j].toNat : Int))) : Bs (W.setCell ⟨g, k, none⟩ (.int .u8 (y.toNat : Int))) (.slice (some ⟨g, 0, none⟩) l.length c) (l.set k y) := by
  refine ⟨some ⟨g, 0, none⟩, c, by rw [bc_len, List.length_set], by rw [bc_len, List.length_set]; exact hc, Or.inr ⟨g, 0, rfl, by simpa [World.setCell] using hg, fun j u hu => ?_⟩⟩
  obtain ⟨hj', rfl⟩ := List.getElem?_eq_some_iff.1 hu
  have hj : j < l.length := by rw [bc_len, List.length_set] at hj'; exact hj'
  rw [Nat.zero_add]
  have e0 : (Lib.byteCells (l.set k y))[j] = .int .u8 (((l.set k y)[j]'(by rw [List.length_set]; exact hj)).toNat : Int) := Option.some.inj ((List.getElem?_eq_getElem hj').symm.trans (Dg.cells_at (by rw [List.length_set]; exact hj)))
  rw [e0]
  by_cases e : k = j
  · subst e
    refine (World.cell?_setCell_same (u := .int .u8 (l[k].toNat : Int)) (h := h k hk) ..).trans ?_
    rw [List.getElem_set_self]
  · refine (World.cell?_setCell_other (h := ?_) ..).trans ?_
    · intro h
      injection h with _ h2
      exact e h2
    · rw [h j hj, List.getElem_set_ne e]
/-- The cells of a slice of its own, of a known length. -/
theorem own_at {B N : Nat} {w : World} {v : Value} {l : List UInt8} (h : Dg.Bw B w v l) (hN : N = l.length) (h0 : 0 < N) : ∃ g c, v = .slice (some ⟨g, 0, none⟩) N c ∧ B ≤ g ∧ g < w.heap.size ∧ N ≤ c ∧ (∀ k, w.frozen? ⟨g, k, none⟩ = false) ∧ Hid (∀ k (hk : k < l.length), w.cell? ⟨g, k, none⟩ = some (.int .u8 (l[k].toNat : Int))) := by
  subst hN
  have hc := fun g => World.ownsRow.cells (g := g) h
  rcases h.2 with ⟨_, e⟩ | ⟨g, cap, cur, rfl, hB, hg, hn, _⟩
  · omega
  · refine ⟨g, cap, rfl, hB, (Array.getElem?_eq_some_iff.1 hg).1, hn, fun k => by simp [World.frozen?, hg], Lib.hid fun j hj => ?_⟩
    have := hc g rfl j _ (Dg.cells_at hj)
    rwa [Dg.add_at] at this
/-- What append hands back. -/
theorem arm_post {w3 w4 : World} {v4 : Value} {B : List UInt8} {N I : Nat} {x : UInt8} (own4 : Dg.Bw w3.heap.size w4 v4 ([] ++ B)) (gr4 : (w3.alloc (.cells #[] 5)).grownBy w4 (Value.slice (some ⟨w3.heap.size, 0, none⟩) 0 0).ownBlock) (hN : N = B.length) (h0 : 0 < N) (hx : B[I]? = some x) :
    ∃ g c, v4 = .slice (some ⟨g, 0, none⟩) N c ∧ w3.heap.size ≤ g ∧ g < w4.heap.size ∧ N ≤ c ∧ w4.cell? ⟨g, I, none⟩ = some (.int .u8 (x.toNat : Int)) ∧ w4.frozen? ⟨g, I, none⟩ = false ∧ Hid (∀ k (hk : k < B.length), w4.cell? ⟨g, k, none⟩ = some (.int .u8 (B[k].toNat : Int))) ∧ Hid (Grew w3 w4) := by
  rw [List.nil_append] at own4
  obtain ⟨g, c, e, h1, h2, h3, f, h4⟩ := own_at own4 hN h0
  obtain ⟨h5, h6⟩ := List.getElem?_eq_some_iff.1 hx
  exact ⟨g, c, e, h1, h2, h3, by rw [← h6]; exact h4.out I h5, f I, h4, Lib.hid (Grew.grown ((Grew.refl w3).alloc _ _) gr4 (fun k hk => (Dg.Bw.lt (made_bw w3 (Nat.le_refl _)) k hk).1))⟩
/-- All but the last one are read, where the last frame is changed. -/
theorem changed_has {L : List (List Int)} (hL : Oks L) {m I : Nat} (hm : m + 1 = L.length) (h1 : (fl (L.take m)).length + 3 ≤ I) (h2 : I < (fl L).length) {x y : UInt8} (hx2 : (fl L)[I]? = some x) (hy : y ≠ x) : ∃ r, NoF r ∧ (fl L).set I y = fl (L.take m) ++ r := by
  have e : fl L = fl (L.take m) ++ fr (L[m]'(by omega)) := by
    have := fl_next (L := L) (i := m) (by omega)
    rwa [hm, List.take_length] at this
  have hlen : (fl L).length = (fl (L.take m)).length + (fr (L[m]'(by omega))).length := by
    conv => lhs; rw [e]
    rw [List.length_append]
  refine ⟨(fr (L[m]'(by omega))).set (I - (fl (L.take m)).length) y, no_changed (hL _ (List.getElem_mem (by omega))) (by omega) (by omega) ?_, ?_⟩
  · rw [e, List.getElem?_append_right (by omega)] at hx2
    rw [hx2]
    intro h
    exact hy (Option.some.inj h).symm
  · conv => lhs; rw [e]
    rw [List.set_append, if_neg (by omega)]
set_option maxHeartbeats 8000000 in
theorem changed_true {T : World → Prop} (K : Code T) (L : List (List Int)) (p : Nat) (y : UInt8) (v : Value) (w : World) (hT : T w) (hv : Ls w v L) (hp : p ≤ 65535) : Calls Tryd.prog 7 #[v, .int .u16 p, .int .u8 (y.toNat : Int)] w fun e w' => e = .returned (.bool true) ∧ Grew w w' := by
  have HD := Lib.hid (head_true K w hT)
  have SM := Lib.hid (fun W (g : Grew w W) => small_c L v W (hv.grew g))
  have MA := Lib.hid (fun W (g : Grew w W) hf => made_c K L v W (K.keep _ _ g hT) (hv.grew g) hf)
  have FS := Lib.hid (fun cs u M r W (g : Grew w W) h hl hM hr hb => (K.fns.frames cs u W (K.keep _ _ g hT) h hl).mono fun e w' h => h.are (L := M) (r := r) hM hr hb)
  have OI := Lib.hid hv.oki
  obtain ⟨a, c, ev, hac⟩ := hv.shape
  obtain ⟨n, hn0⟩ : ∃ n, n = L.length := ⟨_, rfl⟩
  rw [← hn0] at ev hac
  subst ev
  have HL := Lib.hid hn0
  have HV := Lib.hid (fun W (g : Grew w W) => hv.grew g)
  clear hv K hT hn0
  go_enter Tryd.func7, Tryd.ntmps7
  go_wp2_with fail
  refine (HD.out).mono ?_
  rintro e w1 ⟨rfl, g1⟩
  by_cases b0 : n = 0
  · have d0 : ((n : Int) == 0) = true := by rw [b0]; rfl
    clear b0
    go_wp2_with fail
    refine (SM.out _ g1).mono ?_
    rintro e w2 ⟨r, rfl, hr, rfl⟩
    cases r
    · clear hr
      go_wp2_with fail
      go_ret
      exact ⟨by simp, g1⟩
    · clear hr
      go_wp2_with fail
      go_ret
      exact ⟨by simp, g1⟩
  by_cases by0 : y.toNat = 0
  · have d0 : ((n : Int) == 0) = false := by rw [beq_eq_false_iff_ne]; omega
    have d1 : ((y.toNat : Int) == 0) = true := by rw [by0]; rfl
    clear b0 by0
    go_wp2_with fail
    refine (SM.out _ g1).mono ?_
    rintro e w2 ⟨r, rfl, hr, rfl⟩
    cases r
    · clear hr
      go_wp2_with fail
      go_ret
      exact ⟨by simp, g1⟩
    · clear hr
      go_wp2_with fail
      go_ret
      exact ⟨by simp, g1⟩
  have d0 : ((n : Int) == 0) = false := by rw [beq_eq_false_iff_ne]; omega
  have d1 : ((y.toNat : Int) == 0) = false := by rw [beq_eq_false_iff_ne]; omega
  have BY := Lib.hid by0
  have L0 := Lib.hid b0
  clear by0 b0
  go_wp2_with fail
  refine (SM.out _ g1).mono ?_
  rintro e w2 ⟨r, rfl, hr, rfl⟩
  cases r
  · clear hr
    go_wp2_with fail
    go_ret
    exact ⟨by simp, g1⟩
  have FW := Lib.hid (hr rfl)
  have OK := Lib.hid ((hr rfl).oks OI.out)
  clear hr
  go_wp2_with fail
  refine (MA.out _ g1 FW.out).mono ?_
  rintro e w3 ⟨u, s, rfl, bu, is, g3⟩
  have G3 := Lib.hid (Grew.trans g1 g3)
  have BU := Lib.hid bu
  have IS := Lib.hid is
  obtain ⟨ua, uc, rfl, huc⟩ := bu.shape
  obtain ⟨sa, sc, rfl, _⟩ := is.shape
  rw [ends_len, ← HL.out] at IS ⊢
  have hn0 := HL.out
  obtain ⟨m, hm⟩ : ∃ m, m + 1 = L.length := ⟨L.length - 1, by have := L0.out; omega⟩
  have HM := Lib.hid hm
  obtain ⟨N, hN0⟩ : ∃ N, N = (fl L).length := ⟨_, rfl⟩
  rw [← hN0] at BU huc ⊢
  have HN := Lib.hid hN0
  have NL : Hid (N ≤ 3130) := Lib.hid (by have := fl_few OK.out FW.out.2; have := FW.out.1; omega)
  obtain ⟨F, hF0⟩ : ∃ F, F = (fl (L.take m)).length := ⟨_, rfl⟩
  have HF := Lib.hid hF0
  have FN : F + 12 ≤ N := by
    have h := fl_next (L := L) (i := m) (by omega)
    rw [hm, List.take_length] at h
    have h2 := congrArg List.length h
    rw [List.length_append, fr_len] at h2
    have := lb_pos (L[m]'(by omega))
    omega
  obtain ⟨Q, hQ⟩ : ∃ Q, N = F + 3 + Q := ⟨N - F - 3, by omega⟩
  obtain ⟨R, hR0⟩ : ∃ R, R = p % Q := ⟨_, rfl⟩
  have RQ : R < Q := by rw [hR0]; exact Nat.mod_lt _ (by omega)
  have QE : (p : Int) % (Q : Int) = (R : Int) := by rw [hR0, Int.natCast_emod]
  obtain ⟨I, hI⟩ : ∃ I, I = F + 3 + R := ⟨_, rfl⟩
  have N1 : N ≤ 3130 := NL.out
  have IN : I < N := by omega
  obtain ⟨x, hx0⟩ : ∃ x, (fl L)[I]? = some x := ⟨_, List.getElem?_eq_getElem (by omega)⟩
  have HX := Lib.hid hx0
  obtain ⟨z, hz⟩ : ∃ z, z = x ^^^ y := ⟨_, rfl⟩
  have XE := xor_u8 x y
  rw [← hz] at XE
  have ZX : z ≠ x := by rw [hz]; exact xor_ne BY.out
  obtain ⟨r2, NR, CE⟩ := changed_has OK.out (m := m) (I := I) (y := z) hm (by omega) (by omega) hx0 ZX
  have l10 : n ≤ 10 := by rw [hn0]; exact FW.out.1
  have OT : Hid (Oks (L.take m)) := Lib.hid (fun x hx => OK.out x (List.mem_of_mem_take hx))
  have FA : Hid (∀ u W, Grew w W → Bs W u ((fl L).set I z) → Calls Tryd.prog 18 #[u] W (ListsAre (L.take m) F W)) := Lib.hid (fun u W g hx => by
    refine (FS.out _ u (L.take m) r2 W g hx (by rw [List.length_set, ← hN0]; omega) OT.out NR CE).mono fun e w' h => ?_
    unfold FramesAre at h
    rw [← hF0] at h
    exact h)
  have SL := Lib.hid (fun v u W hv hu => same_l (L.take m) v u W hv hu (by rw [List.length_take]; omega) (fun x hx => by have := FW.out.2 x (List.mem_of_mem_take hx); omega))
  have HP := Lib.hid (fun W (g : Grew w W) => (HV.out W g).pre (k := m) (by omega) (by omega))
  have HI := Lib.hid hI
  have IN2 := Lib.hid IN
  have TM : (L.take m).length = m := by rw [List.length_take]; omega
  have q0 : ¬ (Q : Int) = 0 := by omega
  have m1 : (n : Int) - 1 = (m : Int) := by omega
  have m2 : (m : Int) ≤ (c : Int) := by omega
  have i1 : (I : Int) < (N : Int) := by omega
  clear bu is g3 g1 hN0 SM MA FS NR CE hx0 hR0 HV hz ZX
  by_cases c1 : m = 0
  · have e1 : ¬ (1 : Int) < (n : Int) := by omega
    have F0 : F = 0 := by rw [hF0, c1, List.take_zero, fl_nil]; rfl
    subst F0
    have e2 : (N : Int) - 3 = (Q : Int) := by omega
    have e3 : (3 : Int) + (R : Int) = (I : Int) := by omega
    have N0 : 0 < N := by omega
    clear hF0 hm hn0 TM hQ hI c1 FN
    go_wp2_with (at_builtin; first | (refine wpl_bytes _ rfl _ _ rfl w3.heap.size _ _ [] (fl L) rfl (by exact made_bw w3 (Nat.le_refl _)) rfl (by exact BU.out.grew ((Grew.refl _).alloc _ _)) (by rw [← HN.out, List.length_nil]; omega) (by rw [World.size_alloc]; omega) ?_; intro v4 w4 own4 gr4; obtain ⟨g4, c4, rfl, hB4, hg4, hc4, x4, f4, C4, G4⟩ := arm_post own4 gr4 HN.out N0 HX.out; clear own4 gr4))
    have SW := Lib.hid (bs_set w4 (fl L) I (by rw [← HN.out]; exact IN2.out) z g4 c4 (by rw [← HN.out]; exact hc4) hg4 C4.out)
    rw [← HN.out] at SW
    have G5 : Hid (Grew w (w4.setCell ⟨g4, I, none⟩ (.int .u8 (z.toNat : Int)))) := Lib.hid (Grew.trans G3.out (Below.setCell G4.out hB4 _))
    refine (FA.out _ _ G5.out SW.out).mono ?_
    rintro e w5 ⟨x5, rfl, l5, h5⟩
    have G6 := Lib.hid (Grew.trans G5.out h5)
    have L5 := Lib.hid l5
    have P5 := Lib.hid (HP.out _ G6.out)
    clear l5 h5 G5 SW FA HP G4 C4
    go_wp2_with fail
    refine (SL.out _ _ _ L5.out P5.out).mono ?_
    rintro e w6 ⟨rfl, h6⟩
    have G7 := Lib.hid (Grew.trans G6.out h6)
    clear h6 L5 P5 SL G6
    go_wp2_with fail
    go_ret
    exact ⟨by simp, G7.out⟩
  · have e1 : (1 : Int) < (n : Int) := by omega
    obtain ⟨j, hj⟩ : ∃ j, j + 1 = m := ⟨m - 1, by omega⟩
    obtain ⟨b, o, rfl, hb, hc⟩ := IS.out.row (by rw [ends_len]; omega)
    have q1 := hc j (by rw [ends_len]; omega)
    rw [ends_get, hj, ← hF0] at q1
    have j1 : (n : Int) - 2 = (j : Int) := by omega
    have j2 : (0 : Int) ≤ (j : Int) := by omega
    have j3 : (j : Int) < (n : Int) := by omega
    obtain ⟨F3, hF3⟩ : ∃ F3, F3 = F + 3 := ⟨_, rfl⟩
    obtain ⟨NF, hNF⟩ : ∃ NF, NF = N - F := ⟨_, rfl⟩
    have e2 : (N : Int) - (F : Int) = (NF : Int) := by omega
    have e4 : (NF : Int) - 3 = (Q : Int) := by omega
    have e5 : (F : Int) + 3 = (F3 : Int) := by omega
    have e3 : (F3 : Int) + (R : Int) = (I : Int) := by omega
    clear hc hj hF3 hNF
    have N0 : 0 < N := by omega
    clear hF0 hm hn0 TM hQ hI c1 FN
    go_wp2_with (at_builtin; first | (refine wpl_bytes _ rfl _ _ rfl w3.heap.size _ _ [] (fl L) rfl (by exact made_bw w3 (Nat.le_refl _)) rfl (by exact BU.out.grew ((Grew.refl _).alloc _ _)) (by rw [← HN.out, List.length_nil]; omega) (by rw [World.size_alloc]; omega) ?_; intro v4 w4 own4 gr4; obtain ⟨g4, c4, rfl, hB4, hg4, hc4, x4, f4, C4, G4⟩ := arm_post own4 gr4 HN.out N0 HX.out; clear own4 gr4))
    have SW := Lib.hid (bs_set w4 (fl L) I (by rw [← HN.out]; exact IN2.out) z g4 c4 (by rw [← HN.out]; exact hc4) hg4 C4.out)
    rw [← HN.out] at SW
    have G5 : Hid (Grew w (w4.setCell ⟨g4, I, none⟩ (.int .u8 (z.toNat : Int)))) := Lib.hid (Grew.trans G3.out (Below.setCell G4.out hB4 _))
    refine (FA.out _ _ G5.out SW.out).mono ?_
    rintro e w5 ⟨x5, rfl, l5, h5⟩
    have G6 := Lib.hid (Grew.trans G5.out h5)
    have L5 := Lib.hid l5
    have P5 := Lib.hid (HP.out _ G6.out)
    clear l5 h5 G5 SW FA HP G4 C4
    go_wp2_with fail
    refine (SL.out _ _ _ L5.out P5.out).mono ?_
    rintro e w6 ⟨rfl, h6⟩
    have G7 := Lib.hid (Grew.trans G6.out h6)
    clear h6 L5 P5 SL G6
    go_wp2_with fail
    go_ret
    exact ⟨by simp, G7.out⟩
end Co
end Go.Proofs.YtljmdpjjieoedaaDoor
