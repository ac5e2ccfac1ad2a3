/-
  The landed package region: the first of some pieces, what is deleted of them.
-/
import Derived.Test.YtlookcbokhknfaaGreatRegD
namespace Go.Proofs.YtlookcbokhknfaaGreat
open Go.RowKit Go.Shelf Hl
namespace Rg
theorem nine_cells {B : Nat} {w : World} {g cap : Nat} {Q : Pcs} (h : OwnPAt B w g cap Q) {i : Nat} (hi : i < Q.length) : ∃ v0 v1 v2 v3 v4 v5 v6 v7 v8 : Value, pcA (ith Q i).1 (ith Q i).2 = #[v0, v1, v2, v3, v4, v5, v6, v7, v8] ∧ w.cell? ⟨g, i * 9, none⟩ = some v0 ∧ w.cell? ⟨g, i * 9 + 1, none⟩ = some v1 ∧ w.cell? ⟨g, i * 9 + 2, none⟩ = some v2 ∧ w.cell? ⟨g, i * 9 + 3, none⟩ = some v3 ∧ w.cell? ⟨g, i * 9 + 4, none⟩ = some v4 ∧ w.cell? ⟨g, i * 9 + 5, none⟩ = some v5 ∧ w.cell? ⟨g, i * 9 + 6, none⟩ = some v6 ∧ w.cell? ⟨g, i * 9 + 7, none⟩ = some v7 ∧ w.cell? ⟨g, i * 9 + 8, none⟩ = some v8 := by
  have k := fun j hj => h.cell (j := j) hi hj
  refine ⟨_, _, _, _, _, _, _, _, _, rfl, k 0 (by omega), k 1 (by omega), k 2 (by omega), k 3 (by omega), k 4 (by omega), k 5 (by omega), k 6 (by omega), k 7 (by omega), k 8 (by omega)⟩
theorem nine_typed {B : Nat} {w : World} {g cap : Nat} {Q : Pcs} (h : OwnPAt B w g cap Q) {i : Nat} (hi : i < Q.length) (hd : IsHd (ith Q i).2) : ∃ (v0 v1 v2 v3 v4 v5 v6 v7 : Int) (v8 : Option Addr) (v9 v10 : Nat), pcA (ith Q i).1 (ith Q i).2 = #[.int .i64 v0, .int .i64 v1, .int .i64 v2, .int .i64 v3, .int .i64 v4, .int .i64 v5, .int .i64 v6, .int .i64 v7, .slice v8 v9 v10] ∧ w.cell? ⟨g, i * 9, none⟩ = some (.int .i64 v0) ∧ w.cell? ⟨g, i * 9 + 1, none⟩ = some (.int .i64 v1) ∧ w.cell? ⟨g, i * 9 + 2, none⟩ = some (.int .i64 v2) ∧ w.cell? ⟨g, i * 9 + 3, none⟩ = some (.int .i64 v3) ∧ w.cell? ⟨g, i * 9 + 4, none⟩ = some (.int .i64 v4) ∧ w.cell? ⟨g, i * 9 + 5, none⟩ = some (.int .i64 v5) ∧ w.cell? ⟨g, i * 9 + 6, none⟩ = some (.int .i64 v6) ∧ w.cell? ⟨g, i * 9 + 7, none⟩ = some (.int .i64 v7) ∧ w.cell? ⟨g, i * 9 + 8, none⟩ = some (.slice v8 v9 v10) := by
  obtain ⟨a, n, c, e⟩ := hd
  have k := fun j hj => h.cell (j := j) hi hj
  unfold pcL at k
  rw [e] at k ⊢
  refine ⟨_, _, _, _, _, _, _, _, _, _, _, rfl, k 0 (by omega), k 1 (by omega), k 2 (by omega), k 3 (by omega), k 4 (by omega), k 5 (by omega), k 6 (by omega), k 7 (by omega), k 8 (by omega)⟩
set_option maxRecDepth 100000 in
set_option maxHeartbeats 4000000 in
theorem index_m (f : Nat) (bv : Value) (eg : ∀ args w, (callFunc f args).run Tryz.prog w = .ok (.enter f args) w) (d : List Pt × Value → Bool) (Q : Pcs) (B g cap : Nat) (w : World) (ho : OwnPAt B w g cap Q) (h2 : Q.length ≤ 4000000)
    (hC : ∀ x W, x ∈ Q → Grew w W → Calls Tryz.prog f #[bv, .agg (pcA (x).1 (x).2)] W fun e w' => e = .returned (.bool (d x)) ∧ Grew W w') :
    Calls Tryz.prog 134 #[.slice (some ⟨g, 0, none⟩) Q.length cap, .func (.func f) #[bv] #[]] w (IdxSays Q.length (fun i => d (ith Q i)) w) := by
  have HR := Lib.hid ho
  have HC := Lib.hid hC
  clear ho hC
  go_enter Tryz.func134, Tryz.ntmps134
  go_wp2_with fail
  go_loopw [5, 8] (fun _ i wr => ∃ k : Nat, k ≤ Q.length ∧ i = .int .i64 k ∧ Grew w wr ∧ Hid (∀ j, j < k → d (ith Q j) = false)) (fun _ i _ => Q.length - (intOf i).toNat)
  case atStart => exact ⟨0, Nat.zero_le _, rfl, Grew.refl _, Lib.hid (fun j hj => by omega)⟩
  case round =>
    obtain ⟨k, hk, rfl, G, D⟩ := hrel
    by_cases hlt : k < Q.length
    · obtain ⟨v0, v1, v2, v3, v4, v5, v6, v7, v8, ea, q0, q1, q2, q3, q4, q5, q6, q7, q8⟩ := nine_cells (HR.out.grew G) hlt
      have i0 : (0 : Int) ≤ (k : Int) := by omega
      have i1 : (k : Int) < (Q.length : Int) := by omega
      obtain ⟨r, hr⟩ : ∃ r, d (ith Q k) = r := ⟨_, rfl⟩
      have RD := Lib.hid hr
      have CC : Hid (Calls Tryz.prog f #[bv, (.agg #[v0, v1, v2, v3, v4, v5, v6, v7, v8])] wr fun e w' => e = .returned (.bool r) ∧ Grew wr w') := Lib.hid (by
        have h := HC.out _ wr (ith_mem hlt) G
        rw [ea, hr] at h
        exact h)
      clear hr ea
      cases r
      · go_wp2_with fail
        refine CC.out.mono ?_
        rintro e w1 ⟨rfl, g1⟩
        have G1 : Grew w w1 := Grew.trans G g1
        clear g1
        go_wp2_with fail
        go_roundw
        case rel => exact ⟨k + 1, by omega, by go_num, G1, Lib.hid (fun j hj => by
          by_cases e : j = k
          · rw [e]; exact RD.out
          · exact D.out j (by omega))⟩
        case measure => simp [intOf]; omega
      · go_wp2_with fail
        refine CC.out.mono ?_
        rintro e w1 ⟨rfl, g1⟩
        have G1 : Grew w w1 := Grew.trans G g1
        clear g1
        go_wp2_with fail
        go_ret
        exact ⟨k, rfl, Lib.hid (Or.inr ⟨k, hlt, rfl, RD.out, D.out⟩), G1⟩
    · obtain rfl : k = Q.length := by omega
      have D' := Lib.hid D.out
      go_wp2_with fail
      go_ret
      exact ⟨-1, rfl, Lib.hid (Or.inl ⟨rfl, D'.out⟩), G⟩
theorem index_m0 (fv : Value) (hf : ∃ f b c, fv = .func (.func f) b c) (w : World) : Calls Tryz.prog 134 #[.slice none 0 0, fv] w fun e w' => e = .returned (.int .i64 (-1)) ∧ w = w' := by
  obtain ⟨f, b, c, rfl⟩ := hf
  go_enter Tryz.func134, Tryz.ntmps134
  go_wp2_with fail
  go_loopw [5, 8] (fun _ i wr => i = .int .i64 0 ∧ w = wr) (fun _ _ _ => 0)
  case atStart => exact ⟨rfl, rfl⟩
  case round =>
    obtain ⟨rfl, rfl⟩ := hrel
    go_wp2_with fail
    go_ret
    exact ⟨rfl, rfl⟩
set_option maxRecDepth 100000 in
set_option maxHeartbeats 4000000 in
theorem index_k (f : Nat) (bv : Value) (eg : ∀ args w, (callFunc f args).run Tryz.prog w = .ok (.enter f args) w) (d : List Pt × Value → Bool) (Q : Pcs) (B g cap : Nat) (w : World) (ho : OwnPAt B w g cap Q) (h2 : Q.length ≤ 4000000)
    (hC : ∀ x W, x ∈ Q → Grew w W → Calls Tryz.prog f #[.agg (pcA (x).1 (x).2), bv] W fun e w' => e = .returned (.bool (d x)) ∧ Grew W w') :
    Calls Tryz.prog 134 #[.slice (some ⟨g, 0, none⟩) Q.length cap, .func (.func f) #[] #[bv]] w (IdxSays Q.length (fun i => d (ith Q i)) w) := by
  have HR := Lib.hid ho
  have HC := Lib.hid hC
  clear ho hC
  go_enter Tryz.func134, Tryz.ntmps134
  go_wp2_with fail
  go_loopw [5, 8] (fun _ i wr => ∃ k : Nat, k ≤ Q.length ∧ i = .int .i64 k ∧ Grew w wr ∧ Hid (∀ j, j < k → d (ith Q j) = false)) (fun _ i _ => Q.length - (intOf i).toNat)
  case atStart => exact ⟨0, Nat.zero_le _, rfl, Grew.refl _, Lib.hid (fun j hj => by omega)⟩
  case round =>
    obtain ⟨k, hk, rfl, G, D⟩ := hrel
    by_cases hlt : k < Q.length
    · obtain ⟨v0, v1, v2, v3, v4, v5, v6, v7, v8, ea, q0, q1, q2, q3, q4, q5, q6, q7, q8⟩ := nine_cells (HR.out.grew G) hlt
      have i0 : (0 : Int) ≤ (k : Int) := by omega
      have i1 : (k : Int) < (Q.length : Int) := by omega
      obtain ⟨r, hr⟩ : ∃ r, d (ith Q k) = r := ⟨_, rfl⟩
      have RD := Lib.hid hr
      have CC : Hid (Calls Tryz.prog f #[(.agg #[v0, v1, v2, v3, v4, v5, v6, v7, v8]), bv] wr fun e w' => e = .returned (.bool r) ∧ Grew wr w') := Lib.hid (by
        have h := HC.out _ wr (ith_mem hlt) G
        rw [ea, hr] at h
        exact h)
      clear hr ea
      cases r
      · go_wp2_with fail
        refine CC.out.mono ?_
        rintro e w1 ⟨rfl, g1⟩
        have G1 : Grew w w1 := Grew.trans G g1
        clear g1
        go_wp2_with fail
        go_roundw
        case rel => exact ⟨k + 1, by omega, by go_num, G1, Lib.hid (fun j hj => by
          by_cases e : j = k
          · rw [e]; exact RD.out
          · exact D.out j (by omega))⟩
        case measure => simp [intOf]; omega
      · go_wp2_with fail
        refine CC.out.mono ?_
        rintro e w1 ⟨rfl, g1⟩
        have G1 : Grew w w1 := Grew.trans G g1
        clear g1
        go_wp2_with fail
        go_ret
        exact ⟨k, rfl, Lib.hid (Or.inr ⟨k, hlt, rfl, RD.out, D.out⟩), G1⟩
    · obtain rfl : k = Q.length := by omega
      have D' := Lib.hid D.out
      go_wp2_with fail
      go_ret
      exact ⟨-1, rfl, Lib.hid (Or.inl ⟨rfl, D'.out⟩), G⟩
theorem contains_m (f : Nat) (bv : Value) (eg : ∀ args w, (callFunc f args).run Tryz.prog w = .ok (.enter f args) w) (d : List Pt × Value → Bool) (Q : Pcs) (B : Nat) (v : Value) (w : World) (ho : OwnP B w v Q) (h2 : Q.length ≤ 4000000)
    (hC : ∀ x W, x ∈ Q → Grew w W → Calls Tryz.prog f #[bv, .agg (pcA (x).1 (x).2)] W fun e w' => e = .returned (.bool (d x)) ∧ Grew W w') :
    Calls Tryz.prog 90 #[v, .func (.func f) #[bv] #[]] w (Tells (∃ x, x ∈ Q ∧ d x = true) w) := by
  have IC : Calls Tryz.prog 134 #[v, .func (.func f) #[bv] #[]] w (IdxSays Q.length (fun i => d (ith Q i)) w) := by
    rcases ho.shape with ⟨rfl, rfl⟩ | ⟨g, cap, rfl, ha⟩
    · refine (index_m0 _ ⟨f, _, _, rfl⟩ w).mono ?_
      rintro e w' ⟨rfl, rfl⟩
      exact ⟨-1, rfl, Lib.hid (Or.inl ⟨rfl, fun j hj => absurd hj (Nat.not_lt_zero j)⟩), Grew.refl _⟩
    · exact index_m f bv eg d Q B g cap w ha h2 hC
  have IC := Lib.hid IC
  obtain ⟨a, n, c, rfl⟩ : ∃ a n c, v = .slice a n c := by
    rcases ho.shape with ⟨rfl, _⟩ | ⟨g, cap, rfl, _⟩
    · exact ⟨_, _, _, rfl⟩
    · exact ⟨_, _, _, rfl⟩
  clear ho hC
  go_enter Tryz.func90, Tryz.ntmps90
  go_wp2_with fail
  refine IC.out.mono ?_
  rintro e w1 ⟨z, rfl, hz, g1⟩
  have HZ : Hid ((∃ x, x ∈ Q ∧ d x = true) ↔ 0 ≤ z) := Lib.hid (by
    rcases hz.out with ⟨rfl, h⟩ | ⟨k, hk, rfl, hd, _⟩
    · refine ⟨fun ⟨x, hx, e⟩ => ?_, fun h => by omega⟩
      obtain ⟨i, hi, ex⟩ := mem_ith hx
      have hk : d (ith Q i) = false := h i hi
      rw [← ex, hk] at e
      cases e
    · exact ⟨fun _ => by omega, fun _ => ⟨_, ith_mem hk, hd⟩⟩)
  clear hz
  by_cases c0 : 0 ≤ z
  · go_wp2_with fail
    go_ret
    exact Tells.yes (HZ.out.2 c0) (by first | rfl | simp [c0]) g1
  · go_wp2_with fail
    go_ret
    exact Tells.no (fun h => by have := HZ.out.1 h; omega) (by first | rfl | simp [c0]) g1

/-! ### What is deleted -/
theorem ptake_snoc (l : Pcs) {j : Nat} (hj : j < l.length) : l.take (j + 1) = l.take j ++ [ith l j] := by
  rw [List.take_add_one]
  unfold ith
  rw [List.getD_eq_getElem?_getD, List.getElem?_eq_getElem hj]
  rfl
theorem ptake_set (L : Pcs) {i : Nat} (hi : i < L.length) (x : List Pt × Value) : (L.set i x).take (i + 1) = L.take i ++ [x] := by
  have h := ptake_snoc (L.set i x) (j := i) (by simpa using hi)
  rw [h, List.take_set_of_le (Nat.le_refl _), ith_set_self hi]
/-- What has been moved so far. -/
structure DelP (d : List Pt × Value → Bool) (l L : Pcs) (i j : Nat) : Prop where
  len : L.length = l.length
  lt : i < j
  low : L.take i = (l.take j).filter fun x => !d x
  high : ∀ m, j ≤ m → ith L m = ith l m
theorem DelP.start {d : List Pt × Value → Bool} {l : Pcs} {k : Nat} (hk : k < l.length) (h : d (ith l k) = true) (h0 : ∀ j, j < k → d (ith l j) = false) : DelP d l l k (k + 1) :=
  ⟨rfl, by omega, by
    rw [ptake_snoc l hk, List.filter_append, List.filter_cons_of_neg (by simp [h]), List.filter_nil, List.append_nil]
    symm
    rw [List.filter_eq_self]
    intro x hx
    obtain ⟨i, hi, e⟩ := mem_ith hx
    rw [List.length_take] at hi
    rw [ith_take (by omega)] at e
    rw [← e, h0 i (by omega)]
    rfl, fun _ _ => rfl⟩
theorem DelP.drop {d : List Pt × Value → Bool} {l L : Pcs} {i j : Nat} (h : DelP d l L i j) (hj : j < l.length) (hd : d (ith l j) = true) : DelP d l L i (j + 1) :=
  ⟨h.len, by have := h.lt; omega, by rw [ptake_snoc l hj, List.filter_append, List.filter_cons_of_neg (by simp [hd]), List.filter_nil, List.append_nil]; exact h.low, fun m hm => h.high m (by omega)⟩
theorem DelP.keep {d : List Pt × Value → Bool} {l L : Pcs} {i j : Nat} (h : DelP d l L i j) (hj : j < l.length) (hd : d (ith l j) = false) : DelP d l (L.set i (ith l j)) (i + 1) (j + 1) :=
  ⟨by rw [List.length_set]; exact h.len, by have := h.lt; omega, by
    rw [ptake_set L (by have := h.lt; have := h.len; omega), ptake_snoc l hj, List.filter_append, List.filter_cons_of_pos (by simp [hd]), List.filter_nil, h.low], fun m hm => by
    rw [ith_set_ne (by have := h.lt; omega)]; exact h.high m (by omega)⟩
def DelPSays (B : Nat) (v : Value) (Q : Pcs) (w : World) (e : Ending) (w' : World) : Prop := ∃ v', e = .returned v' ∧ v'.ownBlock = v.ownBlock ∧ OwnP B w' v' Q ∧ w.grownBy w' v.ownBlock
theorem Grew.by {a b : World} (g : Grew a b) (row : Option Nat) : a.grownBy b row := ⟨g.os, g.tape, g.output, g.size, fun k hk _ => g.block k hk⟩
set_option maxRecDepth 100000 in
set_option maxHeartbeats 8000000 in
theorem delete_k (f : Nat) (bv : Value) (eg : ∀ args w, (callFunc f args).run Tryz.prog w = .ok (.enter f args) w) (d : List Pt × Value → Bool) (l : Pcs) (B g cap : Nat) (w : World) (ho : OwnPAt B w g cap l) (h2 : l.length ≤ 4000000) (hd : ∀ x, x ∈ l → IsHd x.2)
    (hC : ∀ x W, x ∈ l → w.grownBy W (some g) → Calls Tryz.prog f #[.agg (pcA (x).1 (x).2), bv] W fun e w' => e = .returned (.bool (d x)) ∧ Grew W w') :
    Calls Tryz.prog 92 #[.slice (some ⟨g, 0, none⟩) l.length cap, .func (.func f) #[] #[bv]] w (DelPSays B (.slice (some ⟨g, 0, none⟩) l.length cap) (l.filter fun x => !d x) w) := by
  have IC := Lib.hid (index_k f bv eg d l B g cap w ho h2 (fun x W hx k => hC x W hx (Grew.by k _)))
  have HO := Lib.hid ho
  have HC := Lib.hid hC
  have HD := Lib.hid hd
  have hcap : l.length ≤ cap := ho.2.1
  have hmax : cap ≤ 9223372036854775807 := ho.2.2.1
  clear ho hC hd
  go_enter Tryz.func92, Tryz.ntmps92
  go_wp2_with fail
  refine IC.out.mono ?_
  rintro e w1 ⟨z, rfl, hz, g1⟩
  have O1 := Lib.hid (HO.out.grew g1)
  have E1 : Hid (w.grownBy w1 (some g)) := Lib.hid (Grew.by g1 _)
  clear g1
  by_cases hz1 : z = -1
  · have ALL : Hid ((l.filter fun x => !d x) = l) := Lib.hid (by
      rcases hz.out with ⟨_, h⟩ | ⟨k, _, e, _⟩
      · rw [List.filter_eq_self]
        intro x hx
        obtain ⟨j, hj, e⟩ := mem_ith hx
        have hk : d (ith l j) = false := h j hj
        rw [← e, hk]
        rfl
      · omega)
    subst hz1
    go_wp2_with fail
    go_ret
    exact ⟨_, rfl, rfl, by rw [ALL.out]; exact ownp_at.1 O1.out, E1.out⟩
  · obtain ⟨k, hk, rfl, hd, h0⟩ : ∃ k : Nat, k < l.length ∧ z = k ∧ d (ith l k) = true ∧ ∀ j, j < k → d (ith l j) = false := by
      rcases hz.out with ⟨h, _⟩ | h
      · exact absurd h hz1
      · exact h
    have ST := Lib.hid (DelP.start hk hd h0)
    clear hd h0 hz
    have k1 : ((k : Int) == -1) = false := by rw [beq_eq_false_iff_ne]; omega
    go_wp2_with fail
    go_loopw [5, 6, 7] (fun u5 u6 _ wr => ∃ (i j : Nat) (L : Pcs), u5 = .int .i64 i ∧ u6 = .int .i64 j ∧ j ≤ l.length ∧ Hid (OwnPAt B wr g cap L) ∧ Hid (DelP d l L i j) ∧ Hid (w.grownBy wr (some g))) (fun _ j _ _ => l.length - (intOf j).toNat)
    case atStart => exact ⟨k, k + 1, l, rfl, by go_num, by omega, O1, ST, E1⟩
    case round =>
      clear O1 ST k1 hk E1
      obtain ⟨i, j, L, rfl, rfl, hj, HO1, DI, EI⟩ := hrel
      have hij := DI.out.lt
      have HLEN : Hid (L.length = l.length) := Lib.hid DI.out.len
      by_cases hlt : j < l.length
      · obtain ⟨v0, v1, v2, v3, v4, v5, v6, v7, v8, v9, v10, ea, q0, q1, q2, q3, q4, q5, q6, q7, q8⟩ := nine_typed HO1.out (i := j) (by have := HLEN.out; omega) (by rw [DI.out.high j (Nat.le_refl _)]; exact HD.out _ (ith_mem hlt))
        rw [DI.out.high j (Nat.le_refl _)] at ea
        have i0 : (0 : Int) ≤ (j : Int) := by omega
        have i1 : (j : Int) < (l.length : Int) := by omega
        have i2 : (0 : Int) ≤ (i : Int) := by omega
        have i3 : (i : Int) < (l.length : Int) := by omega
        have lg := HO1.out.lt
        have lg1 : g < wr.heap.size + 1 := by omega
        obtain ⟨r, hr⟩ : ∃ r, d (ith l j) = r := ⟨_, rfl⟩
        have RD := Lib.hid hr
        have EA : Hid (pcA (ith l j).1 (ith l j).2 = #[.int .i64 v0, .int .i64 v1, .int .i64 v2, .int .i64 v3, .int .i64 v4, .int .i64 v5, .int .i64 v6, .int .i64 v7, .slice v8 v9 v10]) := Lib.hid ea
        have EW : Hid (w.grownBy (wr.alloc (.cells #[.int .i64 v0, .int .i64 v1, .int .i64 v2, .int .i64 v3, .int .i64 v4, .int .i64 v5, .int .i64 v6, .int .i64 v7, .slice v8 v9 v10] 107)) (some g)) := Lib.hid (grownBy_trans EI.out (World.grownBy_alloc wr _ (some g)))
        have CC : Hid (Calls Tryz.prog f #[(.agg #[.int .i64 v0, .int .i64 v1, .int .i64 v2, .int .i64 v3, .int .i64 v4, .int .i64 v5, .int .i64 v6, .int .i64 v7, .slice v8 v9 v10]), bv] (wr.alloc (.cells #[.int .i64 v0, .int .i64 v1, .int .i64 v2, .int .i64 v3, .int .i64 v4, .int .i64 v5, .int .i64 v6, .int .i64 v7, .slice v8 v9 v10] 107)) fun e w' => e = .returned (.bool r) ∧ Grew (wr.alloc (.cells #[.int .i64 v0, .int .i64 v1, .int .i64 v2, .int .i64 v3, .int .i64 v4, .int .i64 v5, .int .i64 v6, .int .i64 v7, .slice v8 v9 v10] 107)) w') := Lib.hid (by
          have h := HC.out _ _ (ith_mem hlt) EW.out
          rw [ea, hr] at h
          exact h)
        have VB := Lib.hid (Blk.new wr #[.int .i64 v0, .int .i64 v1, .int .i64 v2, .int .i64 v3, .int .i64 v4, .int .i64 v5, .int .i64 v6, .int .i64 v7, .slice v8 v9 v10] 107)
        clear hr ea
        cases r
        · have NX := Lib.hid (DI.out.keep hlt RD.out)
          clear DI
          go_wp2_with fail
          refine CC.out.mono ?_
          rintro e w2 ⟨rfl, g2⟩
          have O2 := HO1.out.grew (Grew.trans ((Grew.refl _).alloc _ _) g2)
          obtain ⟨⟨y0, y1, y2, y3⟩, ⟨y4, y5, y6, y7⟩, y8⟩ := blk9 (VB.out.grown g2)
          obtain ⟨_, _, _, _, _, _, _, _, _, _, s0, s1, s2, s3, s4, s5, s6, s7, s8⟩ := nine_cells O2 (i := i) (by have := HLEN.out; omega)
          have fz := fun o => O2.frozen o
          have f0 := fz (i * 9)
          have f1 := fz (i * 9 + 1)
          have f2 := fz (i * 9 + 2)
          have f3 := fz (i * 9 + 3)
          have f4 := fz (i * 9 + 4)
          have f5 := fz (i * 9 + 5)
          have f6 := fz (i * 9 + 6)
          have f7 := fz (i * 9 + 7)
          have f8 := fz (i * 9 + 8)
          have lg2 := O2.lt
          have OS := Lib.hid (O2.set (i := i) (by have := HLEN.out; omega) (ith l j))
          have ES : Hid (pcL (ith l j) = [.int .i64 v0, .int .i64 v1, .int .i64 v2, .int .i64 v3, .int .i64 v4, .int .i64 v5, .int .i64 v6, .int .i64 v7, .slice v8 v9 v10]) := Lib.hid (by unfold pcL; rw [EA.out])
          have E2 : Hid (w.grownBy (w2.setCells g (i * 9) [.int .i64 v0, .int .i64 v1, .int .i64 v2, .int .i64 v3, .int .i64 v4, .int .i64 v5, .int .i64 v6, .int .i64 v7, .slice v8 v9 v10]) (some g)) := Lib.hid (grownBy_trans (grownBy_trans EW.out (Grew.by g2 _)) (grownBy_setCells g _ w2 _))
          rw [ES.out] at OS
          clear O2 g2 q0 q1 q2 q3 q4 q5 q6 q7 q8 fz
          go_wp2_with fail
          go_roundw
          case rel => exact ⟨i + 1, j + 1, _, by go_num, by go_num, by omega, OS, NX, E2⟩
          case measure => simp [intOf]; omega
        · have NX := Lib.hid (DI.out.drop hlt RD.out)
          clear DI
          go_wp2_with fail
          refine CC.out.mono ?_
          rintro e w2 ⟨rfl, g2⟩
          have O2 := Lib.hid (HO1.out.grew (Grew.trans ((Grew.refl _).alloc _ _) g2))
          have E2 : Hid (w.grownBy w2 (some g)) := Lib.hid (grownBy_trans EW.out (Grew.by g2 _))
          clear g2 q0 q1 q2 q3 q4 q5 q6 q7 q8
          go_wp2_with fail
          go_roundw
          case rel => exact ⟨i, j + 1, L, rfl, by go_num, by omega, O2, NX, E2⟩
          case measure => simp [intOf]; omega
      · obtain rfl : j = l.length := by omega
        have hil : i < l.length := hij
        obtain ⟨vs, hcl⟩ := run_clear_pcs wr g i (l.length - i) (cap - i) (by omega) (fun j hj => HO1.out.there (by omega)) (fun j hj => HO1.out.frozen _)
        have FL : Hid (L.take i = l.filter fun x => !d x) := Lib.hid (by have := DI.out.low; rwa [List.take_length] at this)
        have FIN : Hid (OwnP B (wr.setCells g (i * 9) vs) (.slice (some ⟨g, 0, none⟩) i cap) (l.filter fun x => !d x)) := Lib.hid (by
          have h := (HO1.out.take i).beyonds vs (o := i * 9) (by simp; omega)
          have h2 := ownp_at.1 h
          rw [List.length_take, HLEN.out, Nat.min_eq_left (by omega), FL.out] at h2
          exact h2)
        have EF : Hid (w.grownBy (wr.setCells g (i * 9) vs) (some g)) := Lib.hid (grownBy_trans EI.out (grownBy_setCells g _ wr _))
        have kc : i ≤ cap := by omega
        have k9 : i ≤ 9223372036854775807 := by omega
        have kl : i ≤ l.length := by omega
        clear DI FL
        go_wp2_with fail
        go_ret
        exact ⟨_, rfl, rfl, FIN.out, EF.out⟩
theorem delete_k0 (fv : Value) (hf : ∃ f b c, fv = .func (.func f) b c) (w : World) : Calls Tryz.prog 92 #[.slice none 0 0, fv] w fun e w' => e = .returned (.slice none 0 0) ∧ w = w' := by
  have IC := Lib.hid (index_m0 fv hf w)
  obtain ⟨f, b, c, rfl⟩ := hf
  go_enter Tryz.func92, Tryz.ntmps92
  go_wp2_with fail
  refine IC.out.mono ?_
  rintro e w1 ⟨rfl, rfl⟩
  go_wp2_with fail
  go_ret
  exact ⟨rfl, rfl⟩
end Rg
end Go.Proofs.YtlookcbokhknfaaGreat
