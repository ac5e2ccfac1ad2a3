/-
  The law CodecTorn, under what package codec owes.
-/
import Derived.Test.YtljmdpjjieoedaaDoorCodLawC
namespace Go.Proofs.YtljmdpjjieoedaaDoor
open Go.RowKit Wd
namespace Co
set_option maxRecDepth 100000

/-- The first ones of a slice. -/
theorem Sv.pre {w : World} {a : Option Addr} {n c : Nat} {us : List Value} (h : Sv w (.slice a n c) us) {k : Nat} (h1 : k ≤ us.length) (h2 : k ≤ c) : Sv w (.slice a k c) (us.take k) := by
  have hl : (us.take k).length = k := by rw [List.length_take]; omega
  refine ⟨a, c, by rw [hl], by omega, ?_⟩
  by_cases h0 : k = 0
  · exact Or.inl (by omega)
  · obtain ⟨b, o, rfl, hb, hc⟩ := h.row (by omega)
    refine Or.inr ⟨b, o, rfl, hb, fun i u hu => ?_⟩
    rw [List.getElem?_take] at hu
    split at hu
    · exact hc i u hu
    · cases hu
theorem Bs.pre {w : World} {a : Option Addr} {n c : Nat} {l : List UInt8} (h : Bs w (.slice a n c) l) {k : Nat} (h1 : k ≤ l.length) (h2 : k ≤ c) : Bs w (.slice a k c) (l.take k) := by
  have := Sv.pre h (by rw [bc_len]; exact h1) h2
  rwa [bc_take] at this
theorem Ls.pre {w : World} {a : Option Addr} {n c : Nat} {L : List (List Int)} (h : Ls w (.slice a n c) L) {k : Nat} (h1 : k ≤ L.length) (h2 : k ≤ c) : Ls w (.slice a k c) (L.take k) := by
  obtain ⟨us, e1, e2, e3⟩ := h
  refine ⟨us.take k, by rw [List.length_take, List.length_take, e1], e2.pre (by omega) h2, fun i hi => ?_⟩
  rw [List.length_take] at hi
  obtain ⟨u, k1, k2⟩ := e3 i (by omega)
  exact ⟨u, by rw [List.getElem?_take, if_pos (by omega)]; exact k1, by rw [List.getElem_take]; exact k2⟩
/-- The frames that end up to a byte. -/
def Upto (L : List (List Int)) (at' j k : Nat) : Prop := k ≤ j ∧ (fl (L.take k)).length ≤ at' ∧ (k = j ∨ at' < (fl (L.take (k + 1))).length)
theorem fl_mono (L : List (List Int)) {i j : Nat} (h : i ≤ j) : (fl (L.take i)).length ≤ (fl (L.take j)).length := by
  have : L.take i = (L.take j).take i := by rw [List.take_take, Nat.min_eq_left h]
  rw [this]
  exact fl_take_le _ _
theorem Upto.yes {L : List (List Int)} {at' j k : Nat} (_h : Upto L at' j k) (he : (fl (L.take (j + 1))).length ≤ at') : Upto L at' (j + 1) (j + 1) := ⟨Nat.le_refl _, he, Or.inl rfl⟩
theorem Upto.no {L : List (List Int)} {at' j k : Nat} (h : Upto L at' j k) (he : at' < (fl (L.take (j + 1))).length) : Upto L at' (j + 1) k := by
  obtain ⟨h1, h2, h3⟩ := h
  refine ⟨by omega, h2, Or.inr ?_⟩
  rcases h3 with rfl | h3
  · exact he
  · exact h3
/-- What is cut begins with the frames up to there, and nothing behind them is one. -/
theorem torn {L : List (List Int)} (_hL : Oks L) {at' k : Nat} (h : Upto L at' L.length k) (_ha : at' ≤ (fl L).length) : ∃ r, NoF r ∧ (fl L).take at' = fl (L.take k) ++ r := by
  obtain ⟨h1, h2, h3⟩ := h
  have e : fl L = fl (L.take k) ++ fl (L.drop k) := by rw [← fl_append, List.take_append_drop]
  have e2 : (fl L).take at' = fl (L.take k) ++ (fl (L.drop k)).take (at' - (fl (L.take k)).length) := by
    conv => lhs; rw [e]
    rw [List.take_append, List.take_of_length_le h2]
  refine ⟨_, ?_, e2⟩
  by_cases hk : k < L.length
  · have h4 : at' < (fl (L.take (k + 1))).length := by
      rcases h3 with h3 | h3
      · omega
      · exact h3
    rw [fl_next hk, List.length_append] at h4
    rw [List.drop_eq_getElem_cons hk, fl_cons, List.take_append_of_le_length (by omega)]
    exact no_part (by omega)
  · rw [List.drop_eq_nil_of_le (by omega), fl_nil, List.take_nil]
    exact no_short (by decide)
set_option maxHeartbeats 8000000 in
theorem torn_true {T : World → Prop} (K : Code T) (L : List (List Int)) (p : Nat) (v : Value) (w : World) (hT : T w) (hv : Ls w v L) (hp : p ≤ 65535) : Calls Tryd.prog 5 #[v, .int .u16 p] w fun e w' => e = .returned (.bool true) ∧ Grew w w' := by
  have HD := Lib.hid (head_true K w hT)
  have SM := Lib.hid (fun W (g : Grew w W) => small_c L v W (hv.grew g))
  have MA := Lib.hid (fun W (g : Grew w W) hf => made_c K L v W (K.keep _ _ g hT) (hv.grew g) hf)
  have FS := Lib.hid (fun bs u M r W (g : Grew w W) h hl hM hr hb => (K.fns.frames bs u W (K.keep _ _ g hT) h hl).mono fun e w' h => h.are (L := M) (r := r) hM hr hb)
  have OI := Lib.hid hv.oki
  obtain ⟨a, c, rfl, hac⟩ := hv.shape
  have HV := Lib.hid (fun W (g : Grew w W) => hv.grew g)
  clear hv K hT
  go_enter Tryd.func5, Tryd.ntmps5
  go_wp2_with fail
  refine (HD.out).mono ?_
  rintro e w1 ⟨rfl, g1⟩
  go_wp2_with fail
  refine (SM.out _ g1).mono ?_
  rintro e w2 ⟨r, rfl, hr, rfl⟩
  cases r
  · clear hr
    go_wp2_with fail
    go_ret
    exact ⟨by simp, g1⟩
  · have FW := Lib.hid (hr rfl)
    have OK := Lib.hid ((hr rfl).oks OI.out)
    clear hr
    go_wp2_with fail
    refine (MA.out _ g1 FW.out).mono ?_
    rintro e w3 ⟨u, s, rfl, bu, is, g3⟩
    have G3 := Grew.trans g1 g3
    have BU := Lib.hid bu
    have IS := Lib.hid is
    obtain ⟨ua, uc, rfl, huc⟩ := bu.shape
    obtain ⟨sa, sc, rfl, _⟩ := is.shape
    rw [ends_len] at IS ⊢
    obtain ⟨N, hN0⟩ : ∃ N, N = (fl L).length := ⟨_, rfl⟩
    rw [← hN0] at BU huc ⊢
    have HN := Lib.hid hN0
    have NL : Hid (N ≤ 3130) := Lib.hid (by have := fl_few OK.out FW.out.2; have := FW.out.1; omega)
    have N1 : N ≤ 3130 := NL.out
    obtain ⟨q, hq0⟩ : ∃ q, q = p % (N + 1) := ⟨_, rfl⟩
    have QE : (p : Int) % ((N : Int) + 1) = (q : Int) := by rw [hq0, Int.natCast_emod, Int.natCast_add]; rfl
    have qN : q ≤ N := by rw [hq0]; have := Nat.mod_lt p (show 0 < N + 1 by omega); omega
    have n0 : ¬ (N : Int) + 1 = 0 := by omega
    have l10 : L.length ≤ 10 := FW.out.1
    clear bu is g3 g1 hN0 hq0 SM MA
    go_wp2_with fail
    go_loopw [10, 11, 12] (fun a1 a2 i wr => ∃ j k : Nat, j ≤ L.length ∧ i = .int .i64 j ∧ a1 = .int .i64 k ∧ a2 = .int .i64 ((fl (L.take k)).length : Int) ∧ Grew w3 wr ∧ Hid (Upto L q j k)) (fun _ _ i _ => L.length - (intOf i).toNat)
    case atStart => exact ⟨0, 0, Nat.zero_le _, rfl, rfl, rfl, Grew.refl _, Lib.hid ⟨Nat.le_refl _, by simp [fl_nil], Or.inl rfl⟩⟩
    case round =>
      obtain ⟨j, k, hj, rfl, rfl, rfl, G, UP⟩ := hrel
      by_cases hlt : j < L.length
      · obtain ⟨b, o, rfl, hb, hc⟩ := (IS.out.grew G).row (by rw [ends_len]; omega)
        have q0 := hc j (by rw [ends_len]; exact hlt)
        rw [ends_get] at q0
        obtain ⟨E, hE0⟩ : ∃ E, E = (fl (L.take (j + 1))).length := ⟨_, rfl⟩
        rw [← hE0] at q0
        have HE := Lib.hid hE0
        have i0 : (0 : Int) ≤ (j : Int) := by omega
        have i1 : (j : Int) < (L.length : Int) := by omega
        clear hc hE0
        by_cases he : E ≤ q
        · have e0 : (E : Int) ≤ (q : Int) := by omega
          have UP2 := Lib.hid (UP.out.yes (by rw [← HE.out]; exact he))
          clear he
          go_wp2_with fail
          go_quiet (fail)
          go_wp2_with fail
          go_roundw
          case rel => exact ⟨j + 1, j + 1, by omega, by go_num, by go_num, by rw [HE.out], G.drewN _, UP2⟩
          case measure => simp [intOf]; omega
        · have e0 : ¬ (E : Int) ≤ (q : Int) := by omega
          have UP2 := Lib.hid (UP.out.no (by rw [← HE.out]; omega))
          clear he
          go_wp2_with fail
          go_roundw
          case rel => exact ⟨j + 1, k, by omega, by go_num, by first | trivial | rfl, by first | trivial | rfl, G, UP2⟩
          case measure => simp [intOf]; omega
      · obtain rfl : j = L.length := by omega
        have kL : k ≤ L.length := UP.out.1
        obtain ⟨r2, NR, TE⟩ := torn OK.out UP.out (by rw [← HN.out]; exact qN)
        have TK := Lib.hid TE
        have NF := Lib.hid NR
        have OT : Hid (Oks (L.take k)) := Lib.hid (fun x hx => OK.out x (List.mem_of_mem_take hx))
        have HC : k ≤ c := by omega
        have TB := BU.out.pre (k := q) (by rw [← HN.out]; exact qN) (by omega)
        have F1 := Lib.hid (FS.out _ _ _ _ wr (Grew.trans G3 G) (TB.grew G) (by rw [List.length_take, ← HN.out]; omega) OT.out NF.out TK.out)
        have SL := Lib.hid (fun v u W hv hu => same_l (L.take k) v u W hv hu (by rw [List.length_take]; omega) (fun x hx => by have := FW.out.2 x (List.mem_of_mem_take hx); omega))
        have k1 : (k : Int) ≤ (c : Int) := by omega
        have HP := Lib.hid (fun W (g : Grew w W) => (HV.out W g).pre kL HC)
        have q1 : (q : Int) ≤ (uc : Int) := by omega
        have G9 := Lib.hid (Grew.trans G3 G)
        clear TB TE NR TK NF FS G G3 HC
        go_wp2_with fail
        refine (F1.out).mono ?_
        rintro e w5 ⟨x5, rfl, l5, g5⟩
        have G5 := Lib.hid (Grew.trans G9.out g5)
        have L5 := Lib.hid l5
        clear l5 g5 F1
        go_wp2_with fail
        refine (SL.out _ _ _ L5.out (HP.out _ G5.out)).mono ?_
        rintro e w6 ⟨rfl, g6⟩
        have G6 := Lib.hid (Grew.trans G5.out g6)
        clear g6 L5 SL
        go_wp2_with fail
        go_ret
        exact ⟨by simp, G6.out⟩
end Co
end Go.Proofs.YtljmdpjjieoedaaDoor
