/-
  The law CodecFollows, under what package codec owes.
-/
import Derived.Test.YtljmdpjjieoedaaDoorCodLawD
namespace Go.Proofs.YtljmdpjjieoedaaDoor
open Go.RowKit Wd
namespace Co
set_option maxRecDepth 100000

/-- Lists, how many bytes their frames have, and no error. -/
def ListsAre (M : List (List Int)) (n : Nat) (w : World) (e : Ending) (w' : World) : Prop := ∃ u, e = .returned (.tuple #[u, .int .i64 (n : Int), .int .i64 0]) ∧ Ls w' u M ∧ Grew w w'
set_option maxHeartbeats 8000000 in
theorem follows_true {T : World → Prop} (K : Code T) (L : List (List Int)) (bs : List UInt8) (v u : Value) (w : World) (hT : T w) (hv : Ls w v L) (hu : Bs w u bs) (_hb : bs.length ≤ 9223372036854775807) : Calls Tryd.prog 6 #[v, u] w fun e w' => e = .returned (.bool true) ∧ Grew w w' := by
  have HD := Lib.hid (head_true K w hT)
  have SM := Lib.hid (fun W (g : Grew w W) => small_c L v W (hv.grew g))
  have MA := Lib.hid (fun W (g : Grew w W) hf => made_c K L v W (K.keep _ _ g hT) (hv.grew g) hf)
  have FS := Lib.hid (fun cs u M r W (g : Grew w W) h hl hM hr hb => (K.fns.frames cs u W (K.keep _ _ g hT) h hl).mono fun e w' h => h.are (L := M) (r := r) hM hr hb)
  have OI := Lib.hid hv.oki
  obtain ⟨a, c, rfl, hac⟩ := hv.shape
  obtain ⟨a2, c2, rfl, _⟩ := hu.shape
  have HV := Lib.hid (fun W (g : Grew w W) => hv.grew g)
  have HU := Lib.hid (fun W (g : Grew w W) => hu.grew g)
  clear hv hu K hT
  go_enter Tryd.func6, Tryd.ntmps6
  go_wp2_with fail
  refine (HD.out).mono ?_
  rintro e w1 ⟨rfl, g1⟩
  by_cases b1 : bs.length ≤ 1000
  · have d1 : ¬ (1000 : Int) < (bs.length : Int) := by omega
    go_wp2_with fail
    refine (SM.out _ g1).mono ?_
    rintro e w2 ⟨r, rfl, hr, rfl⟩
    cases r
    · clear hr
      go_wp2_with fail
      go_ret
      exact ⟨by simp, g1⟩
    · have FW := Lib.hid (hr rfl)
      have OK := Lib.hid ((hr rfl).oks OI.out)
      clear hr
      go_wp2_with fail
      refine (MA.out _ g1 FW.out).mono ?_
      rintro e w3 ⟨u3, s, rfl, bu, is, g3⟩
      have G3 := Grew.trans g1 g3
      have BU := Lib.hid bu
      obtain ⟨ua, uc, rfl, huc⟩ := bu.shape
      obtain ⟨sa, sc, rfl, _⟩ := is.shape
      obtain ⟨N, hN0⟩ : ∃ N, N = (fl L).length := ⟨_, rfl⟩
      rw [← hN0] at BU huc ⊢
      have HN := Lib.hid hN0
      have N1 : N ≤ 3130 := by have := fl_few OK.out FW.out.2; have := FW.out.1; omega
      have l10 : L.length ≤ 10 := FW.out.1
      obtain ⟨M, r, hM, hr, hb⟩ := frames_ex bs.length bs (Nat.le_refl _)
      obtain ⟨S, hS0⟩ : ∃ S, S = (fl M).length := ⟨_, rfl⟩
      have S1 : S ≤ 1000 := by have := congrArg List.length hb; rw [List.length_append] at this; omega
      have M1 : M.length ≤ 1000 := by have := fl_len M; omega
      have MO := Lib.hid hM
      have FA : Hid (∀ u W, Grew w W → Bs W u ([] ++ fl L ++ bs) → Calls Tryd.prog 18 #[u] W (ListsAre (L ++ M) (N + S) W)) := Lib.hid (fun u W g hx => by
        refine (FS.out _ u (L ++ M) r W g hx (by rw [List.length_append, List.nil_append, ← hN0]; omega) (fun x hx => ?_) hr ?_).mono fun e w' h => ?_
        · rcases List.mem_append.1 hx with hx | hx
          · exact OK.out x hx
          · exact hM x hx
        · rw [List.nil_append, fl_append, List.append_assoc, ← hb]
        · unfold FramesAre at h
          rw [fl_append, List.length_append, ← hN0, ← hS0] at h
          exact h)
      have FB : Hid (∀ W, Grew w W → Calls Tryd.prog 18 #[.slice a2 bs.length c2] W (ListsAre M S W)) := Lib.hid (fun W g => by
        refine (FS.out _ _ M r W g (HU.out W g) (by omega) hM hr hb).mono fun e w' h => ?_
        unfold FramesAre at h
        rw [← hS0] at h
        exact h)
      have g3H := Lib.hid G3
      clear bu is g3 g1 hN0 hS0 SM MA FS hb hr hM b1
      go_wp2_with (at_builtin; first | (refine wpl_bytes _ rfl _ _ rfl w3.heap.size _ _ [] (fl L) rfl (by exact made_bw w3 (Nat.le_refl _)) rfl (by exact BU.out.grew ((Grew.refl _).alloc _ _)) (by rw [← HN.out, List.length_nil]; omega) (by rw [World.size_alloc]; omega) ?_; intro v4 w4 own4 gr4; have OW4 := Lib.hid own4; have G4 : Grew w3 w4 := Grew.grown ((Grew.refl w3).alloc _ _) gr4 (fun k hk => (Dg.Bw.lt (made_bw w3 (Nat.le_refl _)) k hk).1); clear own4 gr4) | (refine wpl_bytes _ rfl _ _ rfl w3.heap.size _ _ ([] ++ fl L) bs rfl (by exact OW4.out) rfl (by exact HU.out _ (Grew.trans g3H.out G4)) (by rw [List.nil_append, ← HN.out]; omega) (by have := G4.size; omega) ?_; intro v5 w5 own5 gr5; have OW5 := Lib.hid own5; have G5 : Grew w3 w5 := Grew.grown G4 gr5 (fun k hk => (Dg.Bw.lt OW4.out k hk).1); clear own5 gr5))
      refine (FA.out _ _ (Grew.trans G3 G5) (own_bs OW5.out)).mono ?_
      rintro e w6 ⟨x6, rfl, l6, h6⟩
      have G6 := Lib.hid (Grew.trans (Grew.trans G3 G5) h6)
      have L6 := Lib.hid l6
      obtain ⟨xa, xc, rfl, hxc⟩ := l6.shape
      rw [List.length_append] at L6 hxc ⊢
      clear l6 h6 G5 G3 OW5 OW4 G4 FA g3H BU
      go_wp2_with fail
      refine (FB.out _ G6.out).mono ?_
      rintro e w7 ⟨x7, rfl, l7, h7⟩
      have G7 := Lib.hid (Grew.trans G6.out h7)
      have L7 := Lib.hid l7
      have L67 := Lib.hid (L6.out.grew h7)
      obtain ⟨ya, yc, rfl, hyc⟩ := l7.shape
      clear l7 h7 L6 G6 FB
      have p1 : (L.length : Int) ≤ (xc : Int) := by omega
      have T1 := Lib.hid (L67.out.pre (k := L.length) (by rw [List.length_append]; omega) (by omega))
      rw [List.take_left] at T1
      have SL := Lib.hid (fun v u W hv hu => same_l L v u W hv hu (by omega) (fun x hx => by have := FW.out.2 x hx; omega))
      have SM2 := Lib.hid (fun v u W hv hu => same_l M v u W hv hu (by omega) (fun x hx => by have := (MO.out x hx).1; omega))
      have T2 := L67.out.sliced (l := L.length) (k := L.length + M.length) (m := xc) (by omega) (by rw [List.length_append]; exact Nat.le_refl _) hxc
      rw [List.take_of_length_le (by rw [List.length_append]; exact Nat.le_refl _), List.drop_left, Nat.add_sub_cancel_left] at T2
      by_cases hx : xc = L.length
      · have hM0 : M = [] := List.eq_nil_of_length_eq_zero (by omega)
        subst hM0
        rw [if_pos hx, hx, Nat.sub_self] at T2
        have T2H := Lib.hid T2
        rw [hx] at T1
        clear T2 p1 hxc M1
        have p1 : (L.length : Int) ≤ (L.length : Int) := Int.le_refl _
        subst hx
        go_wp2_with fail
        refine (SL.out _ _ _ T1.out (HV.out _ G7.out)).mono ?_
        rintro e w8 ⟨rfl, h8⟩
        have G8 := Lib.hid (Grew.trans G7.out h8)
        have L8 := Lib.hid (L7.out.grew h8)
        have T8 := Lib.hid (T2H.out.grew h8)
        clear h8 T1 T2H L7 L67 G7 SL
        go_wp2_with fail
        refine (SM2.out _ _ _ T8.out L8.out).mono ?_
        rintro e w9 ⟨rfl, h9⟩
        have G9 := Lib.hid (Grew.trans G8.out h9)
        clear h9 T8 L8 G8
        go_wp2_with fail
        go_ret
        exact ⟨by simp, G9.out⟩
      · rw [if_neg hx, Nat.mul_one] at T2
        have T2H := Lib.hid T2
        clear T2
        go_wp2_with fail
        refine (SL.out _ _ _ T1.out (HV.out _ G7.out)).mono ?_
        rintro e w8 ⟨rfl, h8⟩
        have G8 := Lib.hid (Grew.trans G7.out h8)
        have L8 := Lib.hid (L7.out.grew h8)
        have T8 := Lib.hid (T2H.out.grew h8)
        clear h8 T1 T2H L7 L67 G7 SL
        go_wp2_with fail
        refine (SM2.out _ _ _ T8.out L8.out).mono ?_
        rintro e w9 ⟨rfl, h9⟩
        have G9 := Lib.hid (Grew.trans G8.out h9)
        clear h9 T8 L8 G8
        go_wp2_with fail
        go_ret
        exact ⟨by simp, G9.out⟩
  · have d1 : (1000 : Int) < (bs.length : Int) := by omega
    clear b1
    go_wp2_with fail
    refine (SM.out _ g1).mono ?_
    rintro e w2 ⟨r, rfl, hr, rfl⟩
    cases r
    · clear hr
      go_wp2_with fail
      go_ret
      exact ⟨by simp, g1⟩
    · clear hr
      go_wp2_with fail
      go_ret
      exact ⟨by simp, g1⟩
end Co
end Go.Proofs.YtljmdpjjieoedaaDoor
