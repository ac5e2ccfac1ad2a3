/-
  What the laws of layer 8 on frames call: few lists, and their frames.
-/
import Derived.Test.YtljmdpjjieoedaaDoorCodLawB
namespace Go.Proofs.YtljmdpjjieoedaaDoor
open Go.RowKit Wd
namespace Co
set_option maxRecDepth 100000

/-- Few lists, each with few integers. -/
def Few (L : List (List Int)) : Prop := L.length ≤ 10 ∧ ∀ x, x ∈ L → x.length ≤ 30
theorem Ls.oki {w : World} {v : Value} {L : List (List Int)} (h : Ls w v L) : ∀ x, x ∈ L → Oki x := by
  obtain ⟨us, _, _, h3⟩ := h
  intro x hx
  obtain ⟨i, hi, rfl⟩ := List.getElem_of_mem hx
  obtain ⟨u, _, is⟩ := h3 i hi
  exact is.2
theorem Few.oks {L : List (List Int)} (h : Few L) (ho : ∀ x, x ∈ L → Oki x) : Oks L := fun x hx => ⟨by have := h.2 x hx; omega, ho x hx⟩
theorem fr_few {l : List Int} (h : Lok l) (h2 : l.length ≤ 30) : (fr l).length ≤ 313 := by
  have := lb_len h
  rw [fr_len]
  omega
theorem fl_few : ∀ {L : List (List Int)}, Oks L → (∀ x, x ∈ L → x.length ≤ 30) → (fl L).length ≤ 313 * L.length
  | [], _, _ => by simp [fl_nil]
  | l :: L, h1, h2 => by
    have h3 := fl_few (L := L) (fun x hx => h1 x (List.mem_cons_of_mem _ hx)) (fun x hx => h2 x (List.mem_cons_of_mem _ hx))
    have h4 := fr_few (h1 l List.mem_cons_self) (h2 l List.mem_cons_self)
    rw [fl_cons, List.length_append, List.length_cons]
    omega
def SmallSays (L : List (List Int)) (w : World) (e : Ending) (w' : World) : Prop := ∃ r : Bool, e = .returned (.bool r) ∧ (r = true → Few L) ∧ w' = w
set_option maxHeartbeats 4000000 in
theorem small_c (L : List (List Int)) (v : Value) (w : World) (hv : Ls w v L) : Calls Tryd.prog 21 #[v] w (SmallSays L w) := by
  obtain ⟨a, c, rfl, _⟩ := hv.shape
  have HV := Lib.hid hv
  clear hv
  go_enter Tryd.func21, Tryd.ntmps21
  go_wp2_with fail
  go_loopw [3] (fun i wr => ∃ j : Nat, j ≤ L.length ∧ j ≤ 20 ∧ i = .int .i64 j ∧ wr = w ∧ Hid (∀ x, x ∈ L.take j → x.length ≤ 30)) (fun i _ => L.length - (intOf i).toNat)
  case atStart => exact ⟨0, Nat.zero_le _, by omega, rfl, rfl, Lib.hid (fun x hx => by simp at hx)⟩
  case round =>
    obtain ⟨j, hj, j20, rfl, rfl, TK⟩ := hrel
    by_cases hlt : j < L.length
    · by_cases h20 : j < 20
      · obtain ⟨b, o, rfl, hb, hc⟩ := HV.out.row (Nat.lt_of_le_of_lt (Nat.zero_le _) hlt)
        obtain ⟨x, q0, ix⟩ := hc j hlt
        obtain ⟨xa, xc, rfl, _⟩ := ix.shape
        obtain ⟨y, hy0⟩ : ∃ y, y = L[j] := ⟨_, rfl⟩
        rw [← hy0] at q0
        have i0 : (0 : Int) ≤ (j : Int) := by omega
        have i1 : (j : Int) < (L.length : Int) := by omega
        have i2 : (j : Int) < 20 := by omega
        have HY := Lib.hid hy0
        have HL := Lib.hid hlt
        clear hc ix hy0
        by_cases y30 : y.length ≤ 30
        · have y1 : ¬ (30 : Int) < (y.length : Int) := by omega
          have NX : Hid (∀ x, x ∈ L.take (j + 1) → x.length ≤ 30) := Lib.hid (fun x hx => by
            rw [List.take_succ_eq_append_getElem hlt] at hx
            rcases List.mem_append.1 hx with hx | hx
            · exact TK.out x hx
            · rw [List.mem_singleton.1 hx, ← HY.out]; exact y30)
          clear y30
          go_wp2_with fail
          go_roundw
          case rel => exact ⟨j + 1, by omega, by omega, by go_num, trivial, NX⟩
          case measure => simp [intOf]; omega
        · have y1 : (30 : Int) < (y.length : Int) := by omega
          clear y30
          go_wp2_with fail
          go_ret
          exact ⟨false, rfl, (fun h => by cases h), rfl⟩
      · have i1 : (j : Int) < (L.length : Int) := by omega
        have i2 : ¬ (j : Int) < 20 := by omega
        have i3 : decide ((L.length : Int) ≤ 10) = false := by rw [decide_eq_false_iff_not]; omega
        go_wp2_with fail
        go_ret
        exact ⟨false, rfl, (fun h => by cases h), rfl⟩
    · obtain rfl : j = L.length := by omega
      have FW : Hid (decide ((L.length : Int) ≤ 10) = true → Few L) := Lib.hid (fun h => by
        rw [decide_eq_true_iff] at h
        have := TK.out
        rw [List.take_length] at this
        exact ⟨by omega, this⟩)
      go_wp2_with fail
      go_ret
      exact ⟨_, rfl, FW.out, rfl⟩
/-! ### The frames of lists -/
/-- Where each frame ends. -/
def ends (L : List (List Int)) : List Int := (List.range L.length).map fun i => ((fl (L.take (i + 1))).length : Int)
theorem ends_len (L : List (List Int)) : (ends L).length = L.length := by unfold ends; rw [List.length_map, List.length_range]
theorem ends_next {L : List (List Int)} {i : Nat} (h : i < L.length) : ends (L.take (i + 1)) = ends (L.take i) ++ [((fl (L.take (i + 1))).length : Int)] := by
  unfold ends
  rw [show (L.take (i + 1)).length = i + 1 from by rw [List.length_take]; omega, show (L.take i).length = i from by rw [List.length_take]; omega, List.range_succ, List.map_append]
  congr 1
  · refine List.map_congr_left fun k hk => ?_
    have := List.mem_range.1 hk
    rw [List.take_take, List.take_take, Nat.min_eq_left (by omega), Nat.min_eq_left (by omega)]
  · rw [List.map_singleton, List.take_take, Nat.min_eq_left (by omega)]
theorem ends_get {L : List (List Int)} {i : Nat} (h : i < (ends L).length) : (ends L)[i] = ((fl (L.take (i + 1))).length : Int) := by
  have h2 : i < L.length := by rw [ends_len] at h; exact h
  have : (ends L)[i]? = some ((fl (L.take (i + 1))).length : Int) := by
    unfold ends
    rw [List.getElem?_map, List.getElem?_range h2]
    rfl
  rw [List.getElem?_eq_getElem h] at this
  exact Option.some.inj this
theorem fl_next {L : List (List Int)} {i : Nat} (h : i < L.length) : fl (L.take (i + 1)) = fl (L.take i) ++ fr L[i] := by rw [List.take_succ_eq_append_getElem h, fl_snoc]
theorem fl_take_le (L : List (List Int)) (i : Nat) : (fl (L.take i)).length ≤ (fl L).length := by
  have : fl L = fl (L.take i) ++ fl (L.drop i) := by rw [← fl_append, List.take_append_drop]
  rw [this, List.length_append]
  omega
/-- Rows of bytes and of integers lie apart. -/
theorem rows_apart {B : Nat} {w : World} {v u : Value} {l : List UInt8} {k : List Int} (h : Dg.Bw B w v l) (g : Iw B w u k) : u.ownBlock = none ∨ u.ownBlock ≠ v.ownBlock := by
  rcases g.2 with ⟨rfl, _⟩ | ⟨b2, c2, cur2, rfl, _, e2, _⟩
  · exact Or.inl rfl
  · rcases h.2 with ⟨rfl, _⟩ | ⟨b1, c1, cur1, rfl, _, e1, _⟩
    · exact Or.inr (fun e => by cases e)
    · refine Or.inr (fun e => ?_)
      cases e
      rw [e1] at e2
      cases e2
theorem rows_apart' {B : Nat} {w : World} {v u : Value} {l : List UInt8} {k : List Int} (h : Dg.Bw B w v l) (g : Iw B w u k) : v.ownBlock = none ∨ v.ownBlock ≠ u.ownBlock := by
  rcases h.2 with ⟨rfl, _⟩ | ⟨b1, c1, cur1, rfl, _, e1, _⟩
  · exact Or.inl rfl
  · rcases g.2 with ⟨rfl, _⟩ | ⟨b2, c2, cur2, rfl, _, e2, _⟩
    · exact Or.inr (fun e => by cases e)
    · refine Or.inr (fun e => ?_)
      cases e
      rw [e1] at e2
      cases e2
/-- What frames hands back. -/
def MadeSays (L : List (List Int)) (w : World) (e : Ending) (w' : World) : Prop := ∃ u v, e = .returned (.tuple #[u, v, .bool true]) ∧ Bs w' u (fl L) ∧ Is w' v (ends L) ∧ Grew w w'
theorem ends_oki {L : List (List Int)} (h : (fl L).length ≤ 1000000) : Oki (ends L) := by
  intro n hn
  obtain ⟨i, hi, rfl⟩ := List.getElem_of_mem hn
  rw [ends_get hi]
  have := fl_take_le L (i + 1)
  unfold I64
  omega
set_option maxHeartbeats 8000000 in
theorem made_c {T : World → Prop} (K : Code T) (L : List (List Int)) (v : Value) (w : World) (hT : T w) (hv : Ls w v L) (hf : Few L) : Calls Tryd.prog 22 #[v] w (MadeSays L w) := by
  have OK := Lib.hid (hf.oks hv.oki)
  have FR := Lib.hid (fun l u W (g : Grew w W) (h : Is W u l) (hl : l.length ≤ 4000) => K.fns.frame l u W (K.keep _ _ g hT) h hl)
  have FL : Hid ((fl L).length ≤ 3130) := Lib.hid (by have := fl_few OK.out hf.2; have := hf.1; omega)
  have HF := Lib.hid hf
  obtain ⟨a, c, rfl, _⟩ := hv.shape
  have HV := Lib.hid hv
  have l10 : L.length ≤ 10 := hf.1
  clear hv K hT hf
  go_enter Tryd.func22, Tryd.ntmps22
  go_wp2_with fail
  go_loopw [5, 6, 7] (fun u s i wr => ∃ j : Nat, j ≤ L.length ∧ i = .int .i64 j ∧ Grew w wr ∧ Hid (Dg.Bw w.heap.size wr u (fl (L.take j))) ∧ Hid (Iw w.heap.size wr s (ends (L.take j)))) (fun _ _ i _ => L.length - (intOf i).toNat)
  case atStart => exact ⟨0, Nat.zero_le _, rfl, Grew.refl _, Lib.hid (Dg.Bw.nil _ _), Lib.hid (Iw.nil _ _)⟩
  case round =>
    obtain ⟨j, hj, rfl, G, OU, OS⟩ := hrel
    by_cases hlt : j < L.length
    · obtain ⟨b, o, rfl, hb, hc⟩ := (HV.out.grew G).row (Nat.lt_of_le_of_lt (Nat.zero_le _) hlt)
      obtain ⟨x, q0, ix⟩ := hc j hlt
      have i0 : (0 : Int) ≤ (j : Int) := by omega
      have i1 : (j : Int) < (L.length : Int) := by omega
      have FR1 := Lib.hid (FR.out L[j] x wr G ix (by have := HF.out.2 _ (List.getElem_mem hlt); omega))
      have FN := Lib.hid (fl_next hlt)
      have EN := Lib.hid (ends_next hlt)
      have LJ := Lib.hid (fl_take_le L j)
      have LJ2 := Lib.hid (fl_take_le L (j + 1))
      have EL : Hid ((ends (L.take j)).length ≤ 10) := Lib.hid (by rw [ends_len, List.length_take]; omega)
      obtain ⟨n, hn0⟩ : ∃ n, n = (fr L[j]).length := ⟨_, rfl⟩
      have n1 : 12 ≤ n := by rw [hn0, fr_len]; have := lb_pos L[j]; omega
      have HN := Lib.hid hn0
      have N2 : Hid (n ≤ 3130) := Lib.hid (by have h := congrArg List.length FN.out; rw [List.length_append] at h; have := LJ2.out; have := FL.out; omega)
      clear hc ix hn0
      go_wp2_with fail
      refine (FR1.out).mono ?_
      rintro e w3 ⟨x3, rfl, o3, g3⟩
      obtain ⟨xa, xc, rfl, hxc⟩ := (own_bs o3).shape
      rw [← HN.out] at o3 hxc
      rw [← HN.out]
      have B3 := Lib.hid (own_bs o3)
      have OU3 := Lib.hid (OU.out.grew g3)
      have OS3 := Lib.hid (OS.out.grew g3)
      have G3 := Grew.trans G g3
      have n3 : ¬ (n : Int) < 12 := by omega
      clear o3 g3 G OU OS FR1
      go_wp2_with (at_builtin; first | (refine wpl_bytes _ rfl _ _ rfl w.heap.size u5 _ (fl (L.take j)) (fr L[j]) rfl (by exact OU3.out) rfl (by exact B3.out) (by have := LJ.out; have := FL.out; have := N2.out; have := HN.out; omega) (by have := G3.size; omega) ?_; intro v4 w4 own4 gr4; rw [← FN.out] at own4; have OU4 := Lib.hid own4; have OS4 : Hid (Iw w.heap.size w4 u6 (ends (L.take j))) := Lib.hid (World.ownsRow.kept OS3.out gr4 (rows_apart OU3.out OS3.out)); have G4 : Grew w w4 := Grew.grown G3 gr4 (fun k hk => (Dg.Bw.lt OU3.out k hk).1); obtain ⟨ya, yc, rfl, _⟩ := (own_bs own4).shape; clear own4 gr4) | (refine wpl_int _ rfl _ _ rfl w.heap.size u6 (ends (L.take j)) _ 0 ((fl (L.take (j + 1))).length : Int) rfl (by exact OS4.out.alloc _) rfl (by rw [World.size_alloc]; omega) (by simp [go_sem]) (by have := EL.out; omega) (by rw [World.size_alloc]; have := G4.size; omega) ?_; intro v5 w5 own5 gr5; have OS5 := Lib.hid own5; have GR5 := Lib.hid gr5; clear own5 gr5))
      rw [← EN.out] at OS5
      have OU5 : Hid (Dg.Bw w.heap.size w5 (.slice ya (fl (L.take (j + 1))).length yc) (fl (L.take (j + 1)))) := Lib.hid (World.ownsRow.kept (OU4.out.alloc _) GR5.out (rows_apart' OU4.out OS4.out))
      have G5 := Lib.hid (Grew.grown (G4.alloc _ _) GR5.out (fun k hk => (Iw.lt OS4.out k hk).1))
      go_roundw
      case rel => exact ⟨j + 1, by omega, by go_num, G5.out, OU5, OS5⟩
      case measure => simp [intOf]; omega
    · obtain rfl : j = L.length := by omega
      have EO := Lib.hid (ends_oki (by have := FL.out; omega : (fl L).length ≤ 1000000))
      go_wp2_with fail
      refine bodyPost_ret (v := .tuple #[u5, u6, .bool true]) (by simp [results, Tryd.results22, go_sem]) rfl ⟨u5, u6, rfl, ?_, ?_, G⟩
      · have := own_bs OU.out
        rwa [List.take_length] at this
      · have := OS.out
        rw [List.take_length] at this
        exact this.is EO.out
end Co
end Go.Proofs.YtljmdpjjieoedaaDoor
