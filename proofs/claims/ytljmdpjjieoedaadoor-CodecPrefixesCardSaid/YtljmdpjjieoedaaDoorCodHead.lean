/-
  The examples of layer 8.
-/
import Derived.Test.YtljmdpjjieoedaaDoorCodCon
namespace Go.Proofs.YtljmdpjjieoedaaDoor
open Go.RowKit Wd
namespace Co
set_option maxRecDepth 100000

theorem lb_ex : lb [0, -1, 64] = [6, 0, 1, 128, 1] := by
  have e0 : ib 0 = [0] := by unfold ib; rw [show num 0 = 0 from by decide, vb_low (by decide)]; decide
  have e1 : ib (-1) = [1] := by unfold ib; rw [show num (-1) = 1 from by decide, vb_low (by decide)]; decide
  have e2 : ib 64 = [128, 1] := by unfold ib; rw [show num 64 = 128 from by decide, vb_high (by decide), vb_low (by decide)]; decide
  have e3 : ib 3 = [6] := by unfold ib; rw [show num 3 = 6 from by decide, vb_low (by decide)]; decide
  unfold lb
  rw [show (([0, -1, 64] : List Int).length : Int) = 3 from rfl, e3, il_cons, il_cons, il_cons, il_nil, e0, e1, e2]
  rfl
theorem no_ex : NoL [2, 128, 0] := by
  have e1 : ib 1 = [2] := by unfold ib; rw [show num 1 = 2 from by decide, vb_low (by decide)]; decide
  have h : NoI [128, 0] := no_i_of (no_zero (k := [128]) (x := 0) (r := []) (fun x hx => by rw [List.mem_singleton.1 hx]; decide) (by simp) (by decide))
  have := no_item (k := []) (n := 1) (r := [128, 0]) (by decide) h
  rw [il_nil, List.nil_append, show ((1 : Nat) : Int) = 1 from rfl, e1] at this
  exact this
theorem fr_ex : (fr [5]).length = 13 ∧ (fr [5]).take 5 = [0, 0, 2, 2, 10] := by
  have e1 : ib 1 = [2] := by unfold ib; rw [show num 1 = 2 from by decide, vb_low (by decide)]; decide
  have e5 : ib 5 = [10] := by unfold ib; rw [show num 5 = 10 from by decide, vb_low (by decide)]; decide
  have e : lb [5] = [2, 10] := by
    unfold lb
    rw [show (([5] : List Int).length : Int) = 1 from rfl, e1, il_cons, il_nil, e5]
    rfl
  refine ⟨by rw [fr_len, e]; rfl, ?_⟩
  have h := fr_at [5] []
  rw [List.append_nil, e] at h
  rw [h]
  rfl
theorem i64_ex (n : Int) (h : -1000 ≤ n ∧ n ≤ 1000) : I64 n := by unfold I64; omega
theorem five_bs (w : World) (b0 b1 b2 b3 b4 : UInt8) : Bs (w.alloc (.cells #[.int .u8 (b0.toNat : Int), .int .u8 (b1.toNat : Int), .int .u8 (b2.toNat : Int), .int .u8 (b3.toNat : Int), .int .u8 (b4.toNat : Int)] 5)) (.slice (some ⟨w.heap.size, 0, none⟩) 5 5) [b0, b1, b2, b3, b4] :=
  ⟨_, 5, rfl, Nat.le_refl _, Or.inr ⟨w.heap.size, 0, rfl, by simp, fun i u hu => by
    have hi : i < 5 := (List.getElem?_eq_some_iff.1 hu).1
    match i, hi with
    | 0, _ => (have e : _ = u := Option.some.inj hu; rw [← e]; simp [go_sem])
    | 1, _ => (have e : _ = u := Option.some.inj hu; rw [← e]; simp [go_sem])
    | 2, _ => (have e : _ = u := Option.some.inj hu; rw [← e]; simp [go_sem])
    | 3, _ => (have e : _ = u := Option.some.inj hu; rw [← e]; simp [go_sem])
    | 4, _ => (have e : _ = u := Option.some.inj hu; rw [← e]; simp [go_sem])⟩⟩
theorem three_is (w : World) (a b c : Int) (ha : I64 a) (hb : I64 b) (hc : I64 c) : Is (w.alloc (.cells #[.int .i64 a, .int .i64 b, .int .i64 c] 3)) (.slice (some ⟨w.heap.size, 0, none⟩) 3 3) [a, b, c] :=
  ⟨⟨_, 3, rfl, Nat.le_refl _, Or.inr ⟨w.heap.size, 0, rfl, by simp, fun i u hu => by
    have hi : i < 3 := (List.getElem?_eq_some_iff.1 hu).1
    match i, hi with
    | 0, _ => (have e : _ = u := Option.some.inj hu; rw [← e]; simp [go_sem])
    | 1, _ => (have e : _ = u := Option.some.inj hu; rw [← e]; simp [go_sem])
    | 2, _ => (have e : _ = u := Option.some.inj hu; rw [← e]; simp [go_sem])⟩⟩, fun n hn => by
    simp only [List.mem_cons, List.not_mem_nil, or_false] at hn
    rcases hn with rfl | rfl | rfl <;> assumption⟩
theorem one_is (w : World) (a : Int) (ha : I64 a) : Is (w.alloc (.cells #[.int .i64 a] 3)) (.slice (some ⟨w.heap.size, 0, none⟩) 1 1) [a] :=
  ⟨⟨_, 1, rfl, Nat.le_refl _, Or.inr ⟨w.heap.size, 0, rfl, by simp, fun i u hu => by
    have hi : i < 1 := (List.getElem?_eq_some_iff.1 hu).1
    match i, hi with
    | 0, _ => (have e : _ = u := Option.some.inj hu; rw [← e]; simp [go_sem])⟩⟩, fun n hn => by rw [List.mem_singleton.1 hn]; exact ha⟩
theorem one_ls {w : World} {v : Value} {l : List Int} (h : Is w v l) : Ls (w.alloc (.cells #[v] 22)) (.slice (some ⟨w.heap.size, 0, none⟩) 1 1) [l] :=
  ⟨[v], rfl, ⟨_, 1, rfl, Nat.le_refl _, Or.inr ⟨w.heap.size, 0, rfl, by simp, fun i u hu => by
    have hi : i < 1 := (List.getElem?_eq_some_iff.1 hu).1
    match i, hi with
    | 0, _ => (have e : _ = u := Option.some.inj hu; rw [← e]; simp [go_sem])⟩⟩, fun i hi => by
    match i, hi with
    | 0, _ => exact ⟨v, rfl, h.grew ((Grew.refl _).alloc _ _)⟩⟩
theorem two_bs (w : World) (b0 b1 : UInt8) : Bs (w.alloc (.cells #[.int .u8 (b0.toNat : Int), .int .u8 (b1.toNat : Int)] 5)) (.slice (some ⟨w.heap.size, 0, none⟩) 2 2) [b0, b1] :=
  ⟨_, 2, rfl, Nat.le_refl _, Or.inr ⟨w.heap.size, 0, rfl, by simp, fun i u hu => by
    have hi : i < 2 := (List.getElem?_eq_some_iff.1 hu).1
    match i, hi with
    | 0, _ => (have e : _ = u := Option.some.inj hu; rw [← e]; simp [go_sem])
    | 1, _ => (have e : _ = u := Option.some.inj hu; rw [← e]; simp [go_sem])⟩⟩
/-- A slice of no bytes, laid for an append. -/
theorem made_bw {B : Nat} (w : World) (hB : B ≤ w.heap.size) : Dg.Bw B (w.alloc (.cells #[] 5)) (.slice (some ⟨w.heap.size, 0, none⟩) 0 0) [] := World.ownsRow_made w #[] 0 hB (Nat.zero_le _) rfl
set_option maxHeartbeats 8000000 in
theorem head_true {T : World → Prop} (K : Code T) (w : World) (hT : T w) : Calls Tryd.prog 9 #[] w fun e w' => e = .returned (.bool true) ∧ Grew w w' := by
  have PU := Lib.hid (fun v W (g : Grew w W) (h : Is W v [0, -1, 64]) => K.fns.put _ v W (K.keep _ _ g hT) h (by decide))
  have GE := Lib.hid (fun v W (g : Grew w W) (h : Bs W v [2, 128, 0]) => (K.fns.get _ v W (K.keep _ _ g hT) h (by decide)).mono fun e w' h => h.no no_ex)
  have FR := Lib.hid (fun v W (g : Grew w W) (h : Is W v [5]) => K.fns.frame _ v W (K.keep _ _ g hT) h (by decide))
  have FS := Lib.hid (fun v W (g : Grew w W) (h : Bs W v (fr [5] ++ [0, 0])) => (K.fns.frames _ v W (K.keep _ _ g hT) h (by rw [List.length_append, fr_ex.1]; decide)).mono fun e w' h => h.are (L := [[5]]) (r := [0, 0]) (fun l hl => by rw [List.mem_singleton.1 hl]; exact ⟨by decide, fun n hn => by rw [List.mem_singleton.1 hn]; exact i64_ex 5 (by decide)⟩) (no_short (by decide)) (by rw [fl_cons, fl_nil, List.append_nil]))
  clear hT K
  go_enter Tryd.func9, Tryd.ntmps9
  go_wp2_with fail
  refine (PU.out _ _ ((Grew.refl w).alloc _ _) (three_is w 0 (-1) 64 (i64_ex _ (by decide)) (i64_ex _ (by decide)) (i64_ex _ (by decide)))).mono ?_
  rintro e w1 ⟨a, rfl, oa, g1⟩
  have G1 : Grew w w1 := Grew.trans ((Grew.refl w).alloc _ _) g1
  rw [lb_ex] at oa
  have A1 := Lib.hid (own_bs oa)
  clear oa g1 PU
  go_wp2_with fail
  refine (GE.out _ _ (G1.alloc _ _) (own_bs (three_bw w1 2 128 0 (Nat.le_refl _)))).mono ?_
  rintro e w2 ⟨rfl, g2⟩
  have G2 : Grew w w2 := Grew.trans (G1.alloc _ _) g2
  have A2 := Lib.hid ((A1.out.grew ((Grew.refl w1).alloc _ _)).grew g2)
  clear A1 g2 G1 GE
  go_wp2_with fail
  refine (FR.out _ _ (G2.alloc _ _) (one_is w2 5 (i64_ex _ (by decide)))).mono ?_
  rintro e w3 ⟨c, rfl, oc, g3⟩
  have G3 : Grew w w3 := Grew.trans (G2.alloc _ _) g3
  have A3 := Lib.hid ((A2.out.grew ((Grew.refl w2).alloc _ _)).grew g3)
  have C3 := Lib.hid (own_bs oc)
  clear A2 g3 G2 FR oc
  obtain ⟨ca, cc, rfl, hcc⟩ := C3.out.shape
  have F13 := fr_ex.1
  rw [F13] at C3 hcc ⊢
  obtain ⟨cb, co, rfl, _, _⟩ := C3.out.row (by rw [F13]; decide)
  have F13H := Lib.hid F13
  clear F13
  go_wp2_with (at_builtin; first | (refine wpl_bytes _ rfl _ _ rfl w3.heap.size _ _ [] (fr [5]) rfl (by exact made_bw w3 (Nat.le_refl _)) rfl (by exact C3.out.grew ((Grew.refl _).alloc _ _)) (by rw [F13H.out]; decide) (by rw [World.size_alloc]; omega) ?_; intro v4 w4 own4 gr4; have OW4 := Lib.hid own4; have G4 : Grew w3 w4 := Grew.grown ((Grew.refl w3).alloc _ _) gr4 (fun k hk => (Dg.Bw.lt (made_bw w3 (Nat.le_refl _)) k hk).1); clear own4 gr4) | (refine wpl_bytes _ rfl _ _ rfl w3.heap.size _ _ ([] ++ fr [5]) [0, 0] rfl (by exact Dg.Bw.alloc OW4.out _) rfl (by exact two_bs w4 0 0) (by rw [List.nil_append, F13H.out]; decide) (by rw [World.size_alloc]; have := G4.size; omega) ?_; intro v5 w5 own5 gr5; have OW5 := Lib.hid own5; have G5 : Grew w3 w5 := Grew.grown (G4.alloc _ _) gr5 (fun k hk => (Dg.Bw.lt OW4.out k hk).1); clear own5 gr5))
  refine (FS.out _ _ (Grew.trans G3 G5) (own_bs OW5.out)).mono ?_
  rintro e w6 ⟨u, rfl, lu, g6⟩
  have F6 : Hid ((fl [[5]]).length = 13) := Lib.hid (by rw [fl_cons, fl_nil, List.append_nil, F13H.out])
  rw [F6.out]
  have G6 : Grew w w6 := Grew.trans (Grew.trans G3 G5) g6
  have A6 := Lib.hid ((A3.out.grew G5).grew g6)
  have C6 := Lib.hid ((C3.out.grew G5).grew g6)
  have L6 := Lib.hid lu
  have SA := Lib.hid (fun k l v u W hv hu => r_bytes_same k l v u W hv hu)
  have T5 : Hid ((fr [5]).take 5 = [0, 0, 2, 2, 10]) := Lib.hid fr_ex.2
  clear A3 C3 lu g6 G5 G3 OW5 FS F6 OW4 G4
  go_wp2_with (first | (go_at_call 12; refine (SA.out [6, 0, 1, 128, 1] [6, 0, 1, 128, 1] _ _ _ (by exact A6.out.grew ((Grew.refl _).alloc _ _)) (by exact five_bs w6 6 0 1 128 1)).mono ?_; rintro e w7 ⟨rfl, rfl⟩))
  have LS := Lib.hid (fun k l v u W hv hu hk hs => r_lists_same k l v u W hv hu hk hs)
  have C8 : Hid (Bs w6 (.slice (some ⟨cb, co, none⟩) 5 cc) [0, 0, 2, 2, 10]) := Lib.hid (by
    have h := C6.out.sliced (l := 0) (k := 5) (m := cc) (by decide) (by rw [F13H.out]; decide) (by omega)
    rw [if_neg (by omega), Option.map_some, Nat.zero_mul, add_off, Nat.add_zero, Nat.sub_zero, Nat.sub_zero, List.drop_zero, T5.out] at h
    exact h)
  clear A6 C6 T5
  go_wp2_with (first | (go_at_call 12; refine (SA.out [0, 0, 2, 2, 10] [0, 0, 2, 2, 10] _ _ _ (by exact C8.out.grew (((Grew.refl _).alloc _ _).alloc _ _)) (by have h := five_bs (w6.alloc (.cells #[.int .u8 6, .int .u8 0, .int .u8 1, .int .u8 128, .int .u8 1] 5)) 0 0 2 2 10; rw [World.size_alloc] at h; exact h)).mono ?_; rintro e w8 ⟨rfl, rfl⟩))
  obtain ⟨W2, hW2⟩ : ∃ W2, W2 = (w6.alloc (.cells #[.int .u8 6, .int .u8 0, .int .u8 1, .int .u8 128, .int .u8 1] 5)).alloc (.cells #[.int .u8 0, .int .u8 0, .int .u8 2, .int .u8 2, .int .u8 10] 5) := ⟨_, rfl⟩
  have hS2 : W2.heap.size = w6.heap.size + 1 + 1 := by rw [hW2, World.size_alloc, World.size_alloc]
  have GW2 : Grew w6 W2 := by rw [hW2]; exact ((Grew.refl _).alloc _ _).alloc _ _
  rw [← hS2, ← hW2]
  clear hW2
  have O2 := one_is W2 5 (i64_ex _ (by decide))
  have LL := one_ls O2
  rw [World.size_alloc] at LL
  have L9 := L6.out.grew (((GW2).alloc #[.int .i64 5] 3).alloc #[.slice (some ⟨W2.heap.size, 0, none⟩) 1 1] 22)
  refine (LS.out [[5]] [[5]] _ _ _ L9 LL (by decide) (fun x hx => by rw [List.mem_singleton.1 hx]; decide)).mono ?_
  rintro e w9 ⟨rfl, g9⟩
  have G9 : Grew w w9 := Grew.trans (((Grew.trans G6 GW2).alloc _ _).alloc _ _) g9
  clear L9 LL O2 g9 L6
  go_wp2_with fail
  go_ret
  exact ⟨by simp, G9⟩
end Co
end Go.Proofs.YtljmdpjjieoedaaDoor
