/-
  The reference functions of layer 6: Wide, Around, Disk.
  The reference functions of layer 6: places, Moved, Mirror, Plus.
  The reference functions of layer 6: Mirror.
  The reference functions of layer 6: Plus.
-/
import Derived.Test.YteglefjnbkocgaaHullAro
import Derived.Test.YteglefjnbkocgaaMinkGeo
import Derived.Test.YteglefjnbkocgaaHullRB
import Derived.Deep.AppendLies
import Derived.IntWalk
namespace Go.Proofs.Yteglefjnbkocgaa
open Go.RowKit Hl
namespace Mk
set_option maxRecDepth 100000

/-- The steps of Wide. -/
def stp : Nat → Int
  | 0 => 0
  | t + 1 => 2 ^ t
theorem stp_half : ∀ t, stp (t + 1) / 2 = stp t
  | 0 => by decide
  | t + 1 => by
    show (2 : Int) ^ (t + 1) / 2 = 2 ^ t
    rw [Int.pow_succ]
    omega
theorem pow_bd : ∀ t : Nat, t ≤ 16 → 1 ≤ (2 : Int) ^ t ∧ (2 : Int) ^ t ≤ 65536 := by decide
def WI (n m : Int) (j : Nat) : Prop := (n ≤ m ∧ m ≤ 200000) ∧ (m * m < 2 * n * n ∨ (n = 0 ∧ m = 0)) ∧ 2 * n * n ≤ (m + 2 ^ j) * (m + 2 ^ j)
theorem low_m {n m : Int} (h0 : 0 ≤ n) (h1 : n ≤ 100000) (h : m * m < 2 * n * n) : m ≤ 200000 := by
  have := sq_le (a := m) (b := 2 * n) (by omega) (by
    have e : 2 * n * (2 * n) = 2 * (2 * n * n) := by grind
    have := sq_nonneg n
    have e2 : 2 * n * n = 2 * (n * n) := by grind
    rw [e]
    omega)
  omega
theorem wi_start {n : Int} (h0 : 0 ≤ n) (h1 : n ≤ 100000) : WI n n 17 := by
  refine ⟨⟨Int.le_refl _, by omega⟩, ?_, ?_⟩
  · by_cases e : n = 0
    · exact Or.inr ⟨e, e⟩
    · have := sq_pos e
      have e2 : 2 * n * n = 2 * (n * n) := by grind
      exact Or.inl (by rw [e2]; omega)
  · have e : (n + 2 ^ 17) * (n + 2 ^ 17) = n * n + 262144 * n + 17179869184 := by grind
    have e2 : 2 * n * n = n * n + n * n := by grind
    have := Int.mul_le_mul_of_nonneg_right h1 h0
    rw [e, e2]
    omega
theorem wi_yes {n m : Int} {t : Nat} (h0 : 0 ≤ n) (h1 : n ≤ 100000) (ht : t ≤ 16) (h : WI n m (t + 1)) (c : (m + 2 ^ t) * (m + 2 ^ t) < 2 * n * n) : WI n (m + 2 ^ t) t := by
  have := pow_bd t ht
  refine ⟨⟨by have := h.1.1; omega, low_m h0 h1 c⟩, Or.inl c, ?_⟩
  have e : m + 2 ^ t + 2 ^ t = m + 2 ^ (t + 1) := by rw [Int.pow_succ]; omega
  rw [e]
  exact h.2.2
theorem wi_no {n m : Int} {t : Nat} (h : WI n m (t + 1)) (c : ¬ (m + 2 ^ t) * (m + 2 ^ t) < 2 * n * n) : WI n m t := ⟨h.1, h.2.1, by omega⟩
theorem wi_end {n m : Int} (h0 : 0 ≤ n) (h : WI n m 0) : (m * m < 2 * n * n → Wd n (m + 1)) ∧ (¬ m * m < 2 * n * n → Wd n m) := by
  have hm := h.1
  constructor
  · intro c
    refine ⟨by omega, h.2.2, fun j hj e => ?_⟩
    have : m < j := by
      rcases Int.lt_or_le m j with g | g
      · exact g
      · have := Int.mul_le_mul g g hj (by omega)
        omega
    omega
  · intro c
    rcases h.2.1 with g | ⟨rfl, rfl⟩
    · exact absurd g c
    · exact ⟨by decide, by decide, fun j hj _ => hj⟩
def WideSays (n : Int) (w : World) (e : Ending) (w' : World) : Prop := ∃ m, Wd n m ∧ e = .returned (.int .i64 m) ∧ w = w'
theorem prod_bd {a : Int} (h0 : 0 ≤ a) (h1 : a ≤ 1000000) : 0 ≤ a * a ∧ a * a ≤ 1000000000000 := by
  have := Int.mul_le_mul h1 h1 h0 (by omega)
  exact ⟨sq_nonneg a, by omega⟩
set_option maxHeartbeats 4000000 in
theorem wide_6 (n : Int) (w : World) (h0 : 0 ≤ n) (h1 : n ≤ 100000) : Calls Try.prog 64 #[.int .i64 n] w (WideSays n w) := by
  have b0 := prod_bd h0 (by omega)
  have e0 : 2 * n * n = 2 * (n * n) := by grind
  have b1 : 0 ≤ 2 * n * n ∧ 2 * n * n ≤ 2000000000000 := by omega
  obtain ⟨b2, b3⟩ := b1
  clear b0 e0
  go_enter Try.func64, Try.ntmps64
  go_wp2_with fail
  go_loopw [3, 4] (fun x s wr => ∃ (j : Nat) (m : Int), j ≤ 17 ∧ s = .int .i64 (stp j) ∧ x = .int .i64 m ∧ Hid (WI n m j) ∧ w = wr) (fun _ s _ => (intOf s).toNat)
  case atStart => exact ⟨17, n, Nat.le_refl _, rfl, rfl, Lib.hid (wi_start h0 h1), rfl⟩
  case round =>
    obtain ⟨j, m, hj, rfl, rfl, WJ, rfl⟩ := hrel
    have m0 : 0 ≤ m := by have := WJ.out.1.1; omega
    have m1 : m ≤ 200000 := WJ.out.1.2
    by_cases hlt : 0 < j
    · obtain ⟨t, rfl⟩ : ∃ t, j = t + 1 := ⟨j - 1, by omega⟩
      obtain ⟨p0, p1⟩ := pow_bd t (by omega)
      have HF := stp_half t
      have ES : stp (t + 1) = 2 ^ t := rfl
      rw [ES] at HF ⊢
      have YES := Lib.hid (fun c => wi_yes h0 h1 (by omega) WJ.out c)
      have NO := Lib.hid (fun c => wi_no WJ.out c)
      obtain ⟨S, hS⟩ : ∃ S : Int, S = 2 ^ t := ⟨_, rfl⟩
      obtain ⟨S', hS'⟩ : ∃ S' : Int, S' = stp t := ⟨_, rfl⟩
      have HS' := Lib.hid hS'
      rw [← hS, ← hS'] at HF
      rw [← hS] at p0 p1 YES NO ⊢
      clear hS hS' ES
      obtain ⟨q0, q1⟩ := prod_bd (a := m + S) (by omega) (by omega)
      have d0 : 0 < S := by omega
      by_cases c : (m + S) * (m + S) < 2 * n * n
      · have WN := Lib.hid (YES.out c)
        go_wp2_with fail
        go_roundw
        case rel => exact ⟨t, m + S, by omega, by rw [HF, HS'.out], rfl, WN, trivial⟩
        case measure => simp [intOf]; omega
      · have WN := Lib.hid (NO.out c)
        go_wp2_with fail
        go_roundw
        case rel => exact ⟨t, m, by omega, by rw [HF, HS'.out], rfl, WN, trivial⟩
        case measure => simp [intOf]; omega
    · obtain rfl : j = 0 := by omega
      have E0 : stp 0 = 0 := rfl
      rw [E0]
      clear E0
      have EN := Lib.hid (wi_end h0 WJ.out)
      obtain ⟨q0, q1⟩ := prod_bd (a := m) (by omega) (by omega)
      by_cases c : m * m < 2 * n * n
      · have WN := Lib.hid (EN.out.1 c)
        go_wp2_with fail
        go_ret
        exact ⟨m + 1, WN.out, rfl, rfl⟩
      · have WN := Lib.hid (EN.out.2 c)
        go_wp2_with fail
        go_ret
        exact ⟨m, WN.out, rfl, rfl⟩
end Mk
end Go.Proofs.Yteglefjnbkocgaa
namespace Go.Proofs.Yteglefjnbkocgaa
open Go.RowKit Hl
namespace Mk
set_option maxRecDepth 100000

def FewSays (q : List Pt) (w : World) (e : Ending) (w' : World) : Prop := ∃ v r, ((q.length ≤ 64 ∧ r = q) ∨ (64 < q.length ∧ IsOct q r)) ∧ e = .returned v ∧ Sl w' v r ∧ Grew w w'
theorem fewer_r (q : List Pt) (v : Value) (w : World) (hs : Sl w v q) (hp : Plcs q) (h1 : 1 ≤ q.length) (hm : q.length ≤ 9223372036854775807) : Calls Try.prog 33 #[v] w (FewSays q w) := by
  obtain ⟨b, o, c, rfl, hr⟩ := hs.row (fun e => by rw [e] at h1; cases h1)
  by_cases h : 64 < q.length
  · have i0 : (q.length : Int) > 64 := by omega
    have OC := Lib.hid (octagon_any q b o c w hr hp h1 hm)
    have H := Lib.hid h
    clear h hs hr
    go_enter Try.func33, Try.ntmps33
    go_wp2_with fail
    refine OC.out.mono ?_
    rintro e v1 ⟨r, v, ho, rfl, hv, g⟩
    have HO := Lib.hid ho
    have HV := Lib.hid hv
    clear ho hv
    go_wp2_with fail
    go_ret
    exact ⟨v, r, Or.inr ⟨H.out, HO.out⟩, rfl, HV.out, g⟩
  · have i0 : ¬ (q.length : Int) > 64 := by omega
    have H := Lib.hid h
    have HS := Lib.hid hs
    clear h hs hr
    go_enter Try.func33, Try.ntmps33
    go_wp2_with fail
    go_ret
    exact ⟨_, q, Or.inl ⟨by have := H.out; omega, rfl⟩, rfl, HS.out, Grew.refl _⟩
set_option maxHeartbeats 400000 in
theorem places_6 (p : List Pt) (b o c : Nat) (w : World) (hr : Row w b o p) (hl : p.length ≤ 9223372036854775807) : Calls Try.prog 32 #[.slice (some ⟨b, o, none⟩) p.length c] w (Tells (Plcs p) w) := by
  have HR := Lib.hid hr
  clear hr
  go_enter Try.func32, Try.ntmps32
  go_wp2_with fail
  go_loopw [3] (fun i wr => ∃ k : Nat, k ≤ p.length ∧ i = .int .i64 k ∧ Grew w wr ∧ Hid (∀ j, j < k → Plc (at' p j))) (fun i _ => p.length - (intOf i).toNat)
  case atStart => exact ⟨0, Nat.zero_le _, rfl, Grew.refl _, Lib.hid (fun j hj => by omega)⟩
  case round =>
    obtain ⟨k, hk, rfl, G, D⟩ := hrel
    by_cases hlt : k < p.length
    · obtain ⟨q0, q1⟩ := (HR.out.grown G).2 k hlt
      by_cases hp : Plc (at' p k)
      · have HP := Lib.hid hp
        have PX : Hid (∀ w, Calls Try.prog 22 #[.agg #[.int .i64 (at' p k).1, .int .i64 (at' p k).2]] w fun e w' => e = .returned (.bool true) ∧ Grew w w') := Lib.hid (fun w => place_yes _ _ w hp)
        clear hp
        go_wp2_with fail
        refine (PX.out _).mono ?_
        rintro e w1 ⟨rfl, g1⟩
        have G1 : Grew w w1 := Grew.trans G g1
        clear g1
        go_wp2_with fail
        go_roundw
        case rel => exact ⟨k + 1, by omega, by go_num, G1, Lib.hid (fun j hj => by
          by_cases e : j = k
          · rw [e]; exact HP.out
          · exact D.out j (by omega))⟩
        case measure => simp [intOf]; omega
      · have HP := Lib.hid hp
        have PX : Hid (∀ w, Calls Try.prog 22 #[.agg #[.int .i64 (at' p k).1, .int .i64 (at' p k).2]] w fun e w' => e = .returned (.bool false) ∧ Grew w w') := Lib.hid (fun w => place_no _ _ w hp)
        clear hp
        go_wp2_with fail
        refine (PX.out _).mono ?_
        rintro e w1 ⟨rfl, g1⟩
        have G1 : Grew w w1 := Grew.trans G g1
        clear g1
        go_wp2_with fail
        go_ret
        exact Tells.no (fun h => HP.out (h k hlt)) rfl G1
    · go_wp2_with fail
      go_ret
      exact Tells.yes (fun i hi => D.out i (by omega)) rfl G
theorem wpl_one {ops : Array Oper} {rest : List Oper} {o : Oper} {a : Act} {Q : Exit → Act → World → Prop} (w : World) (hgd : o.guard = none) (s x : Operand)
    (ho : o.op = .call { callee := .builtin .append, args := #[s, x], argTypes := #[22, 22] }) (B : Nat) (v : Value) (p : List Pt) (y : Pt) (wb c : Nat)
    (hs : a.eval s = v) (hown : Hl.Own B w v p) (hx : a.eval x = .slice (some ⟨wb, 0, none⟩) 1 c) (hr : Row w wb 0 [y]) (hl : p.length ≤ 4000000) (hB : B ≤ w.heap.size)
    (h : ∀ v' w', Hl.Own B w' v' (p ++ [y]) → w.grownBy w' v.ownBlock → wpList Try.prog ops Q rest (a.put o.dst v') w') : wpList Try.prog ops Q (o :: rest) a w := by
  obtain ⟨i0, hi, hz0, hz1, hz2⟩ := info_parts info_pt
  refine wpList_append_own w hgd s x 22 ho B 24 i0 (.agg #[.int .i64 0, .int .i64 0]) 2 16 Try.underlying22 hi hz0 hz1 hz2 rfl (by decide) v p.length (cellsOf p) hs hown ⟨wb, 0, none⟩ 1 c (cellsOf [y]) hx rfl (row_cells hr) (cells_one [y]) (by unfold maxLen; omega) (by omega) hB ?_
  intro v' w' h1 h2 _
  refine h v' w' ?_ h2
  unfold Hl.Own
  rw [cellsOf_append, List.length_append]
  exact h1

theorem step_one {ops : Array Oper} {o : Oper} {a : Act} {K : Act → World → Prop} {Q : Exit → Act → World → Prop} {E : Prop} (w : World) (hgd : o.guard = none) (s x : Operand)
    (ho : o.op = .call { callee := .builtin .append, args := #[s, x], argTypes := #[22, 22] }) (B : Nat) (v : Value) (p : List Pt) (y : Pt) (wb c : Nat)
    (hs : a.eval s = v) (hown : Hl.Own B w v p) (hx : a.eval x = .slice (some ⟨wb, 0, none⟩) 1 c) (hr : Row w wb 0 [y]) (hl : p.length ≤ 4000000) (hB : B ≤ w.heap.size)
    (h : ∀ v' w', Hl.Own B w' v' (p ++ [y]) → w.grownBy w' v.ownBlock → K (a.put o.dst v') w') : if Region.wanted o (yielded ops a.tmps) = true then Oper.wp Try.prog o a w K Q else E := by
  have hw : Region.wanted o (yielded ops a.tmps) = true := by simp [Region.wanted, hgd]
  rw [if_pos hw]
  obtain ⟨i0, hi, hz0, hz1, hz2⟩ := info_parts info_pt
  refine wp_append_own w s x 22 ho B 24 i0 (.agg #[.int .i64 0, .int .i64 0]) 2 16 Try.underlying22 hi hz0 hz1 hz2 rfl (by decide) v p.length (cellsOf p) hs hown ⟨wb, 0, none⟩ 1 c (cellsOf [y]) hx rfl (row_cells hr) (cells_one [y]) (by unfold maxLen; omega) (by omega) hB ?_
  intro v' w' h1 h2 _
  refine h v' w' ?_ h2
  unfold Hl.Own
  rw [cellsOf_append, List.length_append]
  exact h1
theorem own_lt {B : Nat} {w : World} {v : Value} {p : List Pt} (h : Hl.Own B w v p) : ∀ k, v.ownBlock = some k → B ≤ k := fun k e => (World.ownsRow.lt h k e).1
theorem shift_next {p : List Pt} {b : Pt} {k : Nat} (h : k < p.length) : shift (p.take (k + 1)) b = shift (p.take k) b ++ [plus (at' p k) b] := by
  unfold shift
  rw [List.take_succ_eq_append_getElem h, List.map_append]
  unfold at'
  simp [h]
theorem mirror_next {p : List Pt} {k : Nat} (h : k < p.length) : mirror (p.take (k + 1)) = mirror (p.take k) ++ [neg (at' p k)] := by
  unfold mirror
  rw [List.take_succ_eq_append_getElem h, List.map_append]
  unfold at'
  simp [h]
def ShiftIs (p : List Pt) (b : Pt) (w : World) (e : Ending) (w' : World) : Prop := ∃ v, e = .returned v ∧ Hl.Own w.heap.size w' v (shift p b) ∧ Grew w w'
theorem own_less {B C : Nat} {w : World} {v : Value} {p : List Pt} (h : Hl.Own B w v p) (hc : C ≤ B) : Hl.Own C w v p := by
  rcases h with ⟨h1, ⟨h2, h3⟩ | ⟨g, cap, cur, h2, h3, h4⟩⟩
  · exact ⟨h1, Or.inl ⟨h2, h3⟩⟩
  · exact ⟨h1, Or.inr ⟨g, cap, cur, h2, Nat.le_trans hc h3, h4⟩⟩
set_option maxHeartbeats 4000000 in
theorem moved_6 (p : List Pt) (z : Pt) (b o c : Nat) (w : World) (hr : Row w b o p) (hp : Plcs p) (hz : Plc z) (hl : p.length ≤ 64) : Calls Try.prog 37 #[.slice (some ⟨b, o, none⟩) p.length c, .agg #[.int .i64 z.1, .int .i64 z.2]] w (ShiftIs p z w) := by
  have HR := Lib.hid hr
  have HP := Lib.hid hp
  have HL := Lib.hid hl
  obtain ⟨⟨z0, z1⟩, z2, z3⟩ := hz
  clear hr hp hl
  go_enter Try.func37, Try.ntmps37
  go_wp2_with fail
  go_loopw [5, 6] (fun u i wr => ∃ k : Nat, k ≤ p.length ∧ i = .int .i64 k ∧ Grew w wr ∧ w.heap.size + 1 ≤ wr.heap.size ∧ Hid (Row wr w.heap.size 0 [z] ∧ Hl.Own (w.heap.size + 1) wr u (shift (p.take k) z))) (fun _ i _ => p.length - (intOf i).toNat)
  case atStart => exact ⟨0, Nat.zero_le _, rfl, (Grew.refl w).alloc _ _, by simp, Lib.hid ⟨row_new [z] _ rfl w _, Own.nil _ _⟩⟩
  case round =>
    obtain ⟨k, hk, rfl, GW, SZ, VO⟩ := hrel
    have V0 := VO.out.1
    have OW := Lib.hid VO.out.2
    clear VO
    by_cases hlt : k < p.length
    · obtain ⟨q0, q1⟩ := (HR.out.grown GW).2 k hlt
      obtain ⟨s0, s1⟩ := V0.2 0 (by simp)
      have hb := (HR.out.grown GW).1
      have hs := V0.1
      simp only [Nat.zero_mul, Nat.zero_add] at s0 s1
      have es : at' [z] 0 = z := rfl
      rw [es] at s0 s1
      have ad0 : b ≠ wr.heap.size := by omega
      obtain ⟨⟨x0, x1⟩, x2, x3⟩ := HP.out k hlt
      have i0 : (0 : Int) ≤ (k : Int) := by omega
      have i1 : (k : Int) < (p.length : Int) := by omega
      have SN := Lib.hid (shift_next (b := z) hlt)
      have pl : (p.length : Int) ≤ 64 := by have := HL.out; omega
      have LN : Hid ((shift (p.take k) z).length ≤ 4000000) := Lib.hid (by rw [shift_len, List.length_take]; have := HL.out; omega)
      have hbw : b < w.heap.size + 1 := by have := HR.out.1; omega
      have hgw : w.heap.size < w.heap.size + 1 := by omega
      have S0 : (wr.cell? ⟨b, o + k * 2, none⟩ = some (.int .i64 (at' p k).1) ∧ wr.cell? ⟨b, o + k * 2 + 1, none⟩ = some (.int .i64 (at' p k).2)) ∧ wr.cell? ⟨w.heap.size, 0, none⟩ = some (.int .i64 z.1) ∧ wr.cell? ⟨w.heap.size, 1, none⟩ = some (.int .i64 z.2) := ⟨⟨q0, q1⟩, s0, s1⟩
      have W1 : IntKind.i64.wrap ((at' p k).1 + z.1) = (at' p k).1 + z.1 := IntWalk.i64_in _ ⟨by omega, by omega⟩
      have W2 : IntKind.i64.wrap ((at' p k).2 + z.2) = (at' p k).2 + z.2 := IntWalk.i64_in _ ⟨by omega, by omega⟩
      have GWH := Lib.hid GW
      clear V0 es GW
      have GW := GWH
      go_wp2_with fail
      go_region_held3 (fun W => (W.cell? ⟨b, o + k * 2, none⟩ = some (.int .i64 (at' p k).1) ∧ W.cell? ⟨b, o + k * 2 + 1, none⟩ = some (.int .i64 (at' p k).2)) ∧ W.cell? ⟨w.heap.size, 0, none⟩ = some (.int .i64 z.1) ∧ W.cell? ⟨w.heap.size, 1, none⟩ = some (.int .i64 z.2)) (first | assumption | simp [go_sem, *])
        ((refine step_one _ rfl (.tmp 13) (.tmp 31) rfl (w.heap.size + 1) _ (shift (p.take k) z) (plus (at' p k) z) _ 1 rfl ?_ rfl ?_ LN.out ?_ ?_
          · repeat' (first | exact OW.out | refine Hl.Own.alloc ?_ _ | refine Hl.Own.drew ?_)
          · exact row_new [(plus (at' p k) z)] _ rfl wr _
          · (have := SZ; simp; omega)
          intro v' w' own' gr'
          have GG4 : Hid (Grew w w') := Lib.hid (Grew.grown (Grew.drew (Grew.alloc GW.out _ _)) gr' (fun k hk => Nat.le_trans (by omega) (own_lt (OW.out) k hk)))
          have FC : ∀ bb oo, bb < (w.heap.size + 1) → w'.cell? ⟨bb, oo, none⟩ = wr.cell? ⟨bb, oo, none⟩ := fun bb oo hbb => by
            rw [World.grownBy.cell_far gr' ⟨bb, oo, none⟩ (by simp; omega) (fun e => by have := own_lt (OW.out) bb e.symm; omega), World.cell?_drew, World.cell?_alloc_lt (h := by simp; omega) ..]
          have S1 : (w'.cell? ⟨b, o + k * 2, none⟩ = some (.int .i64 (at' p k).1) ∧ w'.cell? ⟨b, o + k * 2 + 1, none⟩ = some (.int .i64 (at' p k).2)) ∧ w'.cell? ⟨w.heap.size, 0, none⟩ = some (.int .i64 z.1) ∧ w'.cell? ⟨w.heap.size, 1, none⟩ = some (.int .i64 z.2) := by refine ?_ <;> (simp only [FC _ _ hbw, FC _ _ hgw]; exact S0)
          have OW4 := Lib.hid own'
          have SZ4 : (w.heap.size + 1) ≤ w'.heap.size := Nat.le_trans (by have := SZ; simp; omega) gr'.size
          clear own' gr' FC))
      have S2 := Lib.hid S1
      clear S0 S1 s0 s1 q0 q1 W1 W2
      go_wp2_with fail
      go_roundw
      case rel => exact ⟨k + 1, by omega, by go_num, GG4.out, SZ4, Lib.hid ⟨⟨by omega, fun i hi => by
        have hi' : i < 1 := hi
        obtain rfl : i = 0 := by omega
        rw [Nat.zero_mul]
        exact S2.out.2⟩, by rw [SN.out]; exact OW4.out⟩⟩
      case measure => simp [intOf]; omega
    · obtain rfl : k = p.length := by omega
      go_wp2_with fail
      go_ret
      exact ⟨_, rfl, by have := OW.out; rw [List.take_length] at this; exact own_less this (by omega), GW⟩
end Mk
end Go.Proofs.Yteglefjnbkocgaa
namespace Go.Proofs.Yteglefjnbkocgaa
open Go.RowKit Hl
namespace Mk
set_option maxRecDepth 100000

def MirSays (p : List Pt) (w : World) (e : Ending) (w' : World) : Prop := ∃ v m, IsHull (mirror p) m ∧ e = .returned (.tuple #[v, .int .i64 0]) ∧ Sl w' v m ∧ Grew w w'
theorem mirror_len (p : List Pt) : (mirror p).length = p.length := List.length_map ..
theorem mirror_at {p : List Pt} {i : Nat} (h : i < p.length) : at' (mirror p) i = neg (at' p i) := by
  unfold at' mirror
  rw [List.getD_eq_getElem?_getD, List.getD_eq_getElem?_getD, List.getElem?_map, List.getElem?_eq_getElem h]
  rfl
theorem mirror_pws {p : List Pt} (hp : Plcs p) : Pws (mirror p) := fun i hi => by
  rw [mirror_len] at hi
  rw [mirror_at hi]
  have := hp i hi
  unfold Plc at this
  unfold Pw neg
  omega
set_option maxHeartbeats 4000000 in
theorem mirror_6 (p : List Pt) (v : Value) (w : World) (hs : Sl w v p) (hv : Vl p) : Calls Try.prog 18 #[v] w (MirSays p w) := by
  have h1 := hv.1.1
  obtain ⟨b, o, c, rfl, hr⟩ := hs.row (fun e => by rw [e] at h1; cases h1)
  have HR := Lib.hid hr
  have HP := Lib.hid hv.2.1
  have HL : Hid (1 ≤ p.length ∧ p.length ≤ 64) := Lib.hid hv.1
  have VL := Lib.hid ((valid_any p b o c w hr (by have := hv.1.2; omega)).mono (fun e w' h => (show e = .returned (.bool true) ∧ Grew w w' from by
    obtain ⟨r, rfl, i, g⟩ := h
    rw [i.2 hv]
    exact ⟨rfl, g⟩)))
  clear hr hs hv h1
  go_enter Try.func18, Try.ntmps18
  go_wp2_with fail
  refine (VL.out).mono ?_
  rintro e w0 ⟨rfl, g0⟩
  go_wp2_with fail
  go_loopw [4, 5] (fun u i wr => ∃ k : Nat, k ≤ p.length ∧ i = .int .i64 k ∧ Grew w wr ∧ Hid (Hl.Own w.heap.size wr u (mirror (p.take k)))) (fun _ i _ => p.length - (intOf i).toNat)
  case atStart => exact ⟨0, Nat.zero_le _, rfl, g0, Lib.hid (Own.nil _ _)⟩
  case round =>
    obtain ⟨k, hk, rfl, GW0, OW⟩ := hrel
    have GW := Lib.hid GW0
    by_cases hlt : k < p.length
    · obtain ⟨q0, q1⟩ := (HR.out.grown GW0).2 k hlt
      have hb := (HR.out.grown GW0).1
      have SZ := GW0.size
      have ad0 : b ≠ wr.heap.size := by omega
      obtain ⟨⟨x0, x1⟩, x2, x3⟩ := HP.out k hlt
      have i0 : (0 : Int) ≤ (k : Int) := by omega
      have i1 : (k : Int) < (p.length : Int) := by omega
      have SN := Lib.hid (mirror_next hlt)
      have pl : (p.length : Int) ≤ 64 := by have := HL.out.2; omega
      have LN : Hid ((mirror (p.take k)).length ≤ 4000000) := Lib.hid (by rw [mirror_len, List.length_take]; have := HL.out.2; omega)
      have hbw : b < w.heap.size := HR.out.1
      have S0 : (wr.cell? ⟨b, o + k * 2, none⟩ = some (.int .i64 (at' p k).1) ∧ wr.cell? ⟨b, o + k * 2 + 1, none⟩ = some (.int .i64 (at' p k).2)) := ⟨q0, q1⟩
      have W1 : IntKind.i64.wrap (-(at' p k).1) = -(at' p k).1 := IntWalk.i64_in _ ⟨by omega, by omega⟩
      have W2 : IntKind.i64.wrap (-(at' p k).2) = -(at' p k).2 := IntWalk.i64_in _ ⟨by omega, by omega⟩
      clear GW0
      go_wp2_with fail
      go_region_held3 (fun W => (W.cell? ⟨b, o + k * 2, none⟩ = some (.int .i64 (at' p k).1) ∧ W.cell? ⟨b, o + k * 2 + 1, none⟩ = some (.int .i64 (at' p k).2))) (first | assumption | simp [go_sem, *])
        ((refine step_one _ rfl (.tmp 15) (.tmp 29) rfl w.heap.size _ (mirror (p.take k)) (neg (at' p k)) _ 1 rfl ?_ rfl ?_ LN.out ?_ ?_
          · repeat' (first | exact OW.out | refine Hl.Own.alloc ?_ _ | refine Hl.Own.drew ?_)
          · exact row_new [(neg (at' p k))] _ rfl wr _
          · (have := SZ; simp; omega)
          intro v' w' own' gr'
          have GG4 : Hid (Grew w w') := Lib.hid (Grew.grown (Grew.drew (Grew.alloc GW.out _ _)) gr' (fun k hk => Nat.le_trans (by omega) (own_lt (OW.out) k hk)))
          have FC : ∀ bb oo, bb < w.heap.size → w'.cell? ⟨bb, oo, none⟩ = wr.cell? ⟨bb, oo, none⟩ := fun bb oo hbb => by
            rw [World.grownBy.cell_far gr' ⟨bb, oo, none⟩ (by simp; omega) (fun e => by have := own_lt (OW.out) bb e.symm; omega), World.cell?_drew, World.cell?_alloc_lt (h := by simp; omega) ..]
          have S1 : (w'.cell? ⟨b, o + k * 2, none⟩ = some (.int .i64 (at' p k).1) ∧ w'.cell? ⟨b, o + k * 2 + 1, none⟩ = some (.int .i64 (at' p k).2)) := by refine ?_ <;> (simp only [FC _ _ hbw]; exact S0)
          have OW4 := Lib.hid own'
          have SZ4 : w.heap.size ≤ w'.heap.size := Nat.le_trans (by have := SZ; simp; omega) gr'.size
          clear own' gr' FC))
      clear S0 S1 q0 q1 W1 W2
      go_wp2_with fail
      go_roundw
      case rel => exact ⟨k + 1, by omega, by go_num, GG4.out, Lib.hid (by rw [SN.out]; exact OW4.out)⟩
      case measure => simp [intOf]; omega
    · have KL : Hid (k = p.length) := Lib.hid (by omega)
      obtain ⟨b2, o2, c2, rfl, row⟩ := OW.out.sl.row (fun e => by
        have t1 := congrArg List.length e
        rw [mirror_len, List.length_take, List.length_nil] at t1
        have t2 := HL.out
        have t3 := KL.out
        omega)
      have AR := Lib.hid (around_w (mirror (p.take k)) b2 o2 c2 wr row (by rw [mirror_len, List.length_take]; have := HL.out; have := KL.out; omega) (by rw [mirror_len, List.length_take]; have := HL.out; omega) (by rw [KL.out, List.take_length]; exact mirror_pws HP.out))
      clear row GW0
      go_wp2_with fail
      refine (AR.out).mono ?_
      rintro e w3 ⟨v, q, hq, rfl, hv, g3⟩
      have HQ := Lib.hid hq
      have HV := Lib.hid hv
      have G3 := Lib.hid (Grew.trans GW.out g3)
      clear hq hv g3
      go_wp2_with fail
      go_ret2
      exact ⟨v, q, by have := HQ.out; rwa [KL.out, List.take_length] at this, rfl, HV.out, G3.out⟩
end Mk
end Go.Proofs.Yteglefjnbkocgaa
namespace Go.Proofs.Yteglefjnbkocgaa
open Go.RowKit Hl
namespace Mk
set_option maxRecDepth 100000

/-- The sums up to the place i of the first and j of the second. -/
def part (p q : List Pt) (i j : Nat) : List Pt := sums (p.take i) q ++ (q.take j).map (plus (at' p i))
theorem part_zero (p q : List Pt) (i : Nat) : part p q i 0 = sums (p.take i) q := by unfold part; rw [List.take_zero, List.map_nil, List.append_nil]
theorem part_next {p q : List Pt} {i j : Nat} (hj : j < q.length) : part p q i (j + 1) = part p q i j ++ [plus (at' p i) (at' q j)] := by
  unfold part
  rw [List.take_succ_eq_append_getElem hj, List.map_append, ← List.append_assoc]
  have e : at' q j = q[j] := by unfold at'; simp [hj]
  rw [e]
  rfl
theorem part_all {p q : List Pt} {i : Nat} (hi : i < p.length) : part p q i q.length = sums (p.take (i + 1)) q := by
  unfold part sums
  rw [List.take_succ_eq_append_getElem hi, List.flatMap_append, List.take_length]
  have e : at' p i = p[i] := by unfold at'; simp [hi]
  rw [e]
  simp
theorem sums_len (p q : List Pt) : (sums p q).length = p.length * q.length := by
  induction p with
  | nil => simp [sums]
  | cons x p ih =>
    have e : sums (x :: p) q = q.map (plus x) ++ sums p q := rfl
    rw [e, List.length_append, ih, List.length_map, List.length_cons, Nat.succ_mul, Nat.add_comm]
theorem part_len {p q : List Pt} {i j : Nat} (hp : p.length ≤ 64) (hq : q.length ≤ 64) : (part p q i j).length ≤ 8192 := by
  unfold part
  rw [List.length_append, sums_len, List.length_map, List.length_take, List.length_take]
  have := Nat.mul_le_mul (show min i p.length ≤ 64 by omega) hq
  omega
theorem sums_pws {p q : List Pt} (hp : Plcs p) (hq : Plcs q) : Pws (sums p q) := fun i hi => by
  obtain ⟨x, hx, y, hy, e⟩ := mem_sums.1 (at_mem hi)
  obtain ⟨a, ha, rfl⟩ := mem_at hx
  obtain ⟨c, hc, rfl⟩ := mem_at hy
  rw [← e]
  have h1 := hp a ha
  have h2 := hq c hc
  unfold Plc at h1 h2
  unfold Pw plus
  simp only
  omega
def PlusSays (p q : List Pt) (w : World) (e : Ending) (w' : World) : Prop := ∃ v s, IsHull (sums p q) s ∧ e = .returned v ∧ Sl w' v s ∧ Grew w w'
set_option maxHeartbeats 8000000 in
theorem plus_6 (p q : List Pt) (v v' : Value) (w : World) (hs : Sl w v p) (hs' : Sl w v' q) (hp : Vl p) (hq : Vl q) : Calls Try.prog 31 #[v, v'] w (PlusSays p q w) := by
  obtain ⟨b, o, c, rfl, hr⟩ := hs.row (fun e => by have := hp.1.1; rw [e] at this; cases this)
  obtain ⟨b2, o2, c2, rfl, hr2⟩ := hs'.row (fun e => by have := hq.1.1; rw [e] at this; cases this)
  have HR := Lib.hid hr
  have HR2 := Lib.hid hr2
  have HP := Lib.hid hp.2.1
  have HQ := Lib.hid hq.2.1
  have HL : Hid ((1 ≤ p.length ∧ p.length ≤ 64) ∧ 1 ≤ q.length ∧ q.length ≤ 64) := Lib.hid ⟨hp.1, hq.1⟩
  have pl : (p.length : Int) ≤ 64 := by have := hp.1.2; omega
  have ql : (q.length : Int) ≤ 64 := by have := hq.1.2; omega
  clear hr hr2 hs hs' hp hq
  go_enter Try.func31, Try.ntmps31
  go_wp2_with fail
  go_loopw [5, 6, 7] (fun u x _ wr => ∃ (i : Nat) (ou : Value), i ≤ p.length ∧ x = .int .i64 i ∧ ou = u ∧ Grew w wr ∧ Hid (Hl.Own w.heap.size wr u (sums (p.take i) q))) (fun _ x _ _ => p.length - (intOf x).toNat)
  case atStart => exact ⟨0, _, Nat.zero_le _, rfl, rfl, Grew.refl _, Lib.hid (Own.nil _ _)⟩
  case round =>
    obtain ⟨i, ou, hi, rfl, rfl, GW0, OW0⟩ := hrel
    by_cases hlt : i < p.length
    · have i0 : (0 : Int) ≤ (i : Int) := by omega
      have i1 : (i : Int) < (p.length : Int) := by omega
      obtain ⟨⟨x0, x1⟩, x2, x3⟩ := HP.out i hlt
      have PA := Lib.hid (part_all (q := q) hlt)
      have PZ := Lib.hid (part_zero p q i)
      obtain ⟨V, hV⟩ : ∃ V, V = wr := ⟨wr, rfl⟩
      rw [← hV] at GW0 OW0
      rw [← hV]
      clear hV
      go_wp2_with fail
      go_loopw [5, 7] (fun u x wz => ∃ (j : Nat) (oz : Value), j ≤ q.length ∧ x = .int .i64 j ∧ oz = u ∧ Grew w wz ∧ Hid (Hl.Own w.heap.size wz u (part p q i j))) (fun _ x _ => q.length - (intOf x).toNat)
      case atStart => exact ⟨0, _, Nat.zero_le _, rfl, rfl, GW0, Lib.hid (by rw [PZ.out]; exact OW0.out)⟩
      case round =>
        obtain ⟨j, oz, hj, rfl, rfl, GW1, OW⟩ := hrel
        have GW := Lib.hid GW1
        by_cases hlt2 : j < q.length
        · obtain ⟨q0, q1⟩ := (HR.out.grown GW1).2 i hlt
          obtain ⟨q2, q3⟩ := (HR2.out.grown GW1).2 j hlt2
          have hb := (HR.out.grown GW1).1
          have hb2 := (HR2.out.grown GW1).1
          have SZ := GW1.size
          have ad0 : b ≠ wr.heap.size := by omega
          have ad1 : b2 ≠ wr.heap.size := by omega
          obtain ⟨⟨z0, z1⟩, z2, z3⟩ := HQ.out j hlt2
          have j0 : (0 : Int) ≤ (j : Int) := by omega
          have j1 : (j : Int) < (q.length : Int) := by omega
          have SN := Lib.hid (part_next (p := p) (i := i) hlt2)
          have LN : Hid ((part p q i j).length ≤ 4000000) := Lib.hid (by have := part_len (i := i) (j := j) HL.out.1.2 HL.out.2.2; omega)
          have hbw : b < w.heap.size := HR.out.1
          have hbw2 : b2 < w.heap.size := HR2.out.1
          have S0 : (wr.cell? ⟨b, o + i * 2, none⟩ = some (.int .i64 (at' p i).1) ∧ wr.cell? ⟨b, o + i * 2 + 1, none⟩ = some (.int .i64 (at' p i).2)) ∧ (wr.cell? ⟨b2, o2 + j * 2, none⟩ = some (.int .i64 (at' q j).1) ∧ wr.cell? ⟨b2, o2 + j * 2 + 1, none⟩ = some (.int .i64 (at' q j).2)) := ⟨⟨q0, q1⟩, q2, q3⟩
          have W1 : IntKind.i64.wrap ((at' p i).1 + (at' q j).1) = (at' p i).1 + (at' q j).1 := IntWalk.i64_in _ ⟨by omega, by omega⟩
          have W2 : IntKind.i64.wrap ((at' p i).2 + (at' q j).2) = (at' p i).2 + (at' q j).2 := IntWalk.i64_in _ ⟨by omega, by omega⟩
          clear GW1
          go_wp2_with fail
          go_region_held3 (fun W => (W.cell? ⟨b, o + i * 2, none⟩ = some (.int .i64 (at' p i).1) ∧ W.cell? ⟨b, o + i * 2 + 1, none⟩ = some (.int .i64 (at' p i).2)) ∧ (W.cell? ⟨b2, o2 + j * 2, none⟩ = some (.int .i64 (at' q j).1) ∧ W.cell? ⟨b2, o2 + j * 2 + 1, none⟩ = some (.int .i64 (at' q j).2))) (first | assumption | simp [go_sem, *])
            ((refine step_one _ rfl (.tmp 20) (.tmp 44) rfl w.heap.size _ (part p q i j) (plus (at' p i) (at' q j)) _ 1 rfl ?_ rfl ?_ LN.out ?_ ?_
              · repeat' (first | exact OW.out | refine Hl.Own.alloc ?_ _ | refine Hl.Own.drew ?_)
              · exact row_new [(plus (at' p i) (at' q j))] _ rfl wr _
              · (have := SZ; simp; omega)
              intro v' w' own' gr'
              have GG4 : Hid (Grew w w') := Lib.hid (Grew.grown (Grew.drew (Grew.alloc GW.out _ _)) gr' (fun k hk => Nat.le_trans (by omega) (own_lt (OW.out) k hk)))
              have FC : ∀ bb oo, bb < w.heap.size → w'.cell? ⟨bb, oo, none⟩ = wr.cell? ⟨bb, oo, none⟩ := fun bb oo hbb => by
                rw [World.grownBy.cell_far gr' ⟨bb, oo, none⟩ (by simp; omega) (fun e => by have := own_lt (OW.out) bb e.symm; omega), World.cell?_drew, World.cell?_alloc_lt (h := by simp; omega) ..]
              have S1 : (w'.cell? ⟨b, o + i * 2, none⟩ = some (.int .i64 (at' p i).1) ∧ w'.cell? ⟨b, o + i * 2 + 1, none⟩ = some (.int .i64 (at' p i).2)) ∧ (w'.cell? ⟨b2, o2 + j * 2, none⟩ = some (.int .i64 (at' q j).1) ∧ w'.cell? ⟨b2, o2 + j * 2 + 1, none⟩ = some (.int .i64 (at' q j).2)) := by refine ?_ <;> (simp only [FC _ _ hbw, FC _ _ hbw2]; exact S0)
              have OW4 := Lib.hid own'
              have SZ4 : w.heap.size ≤ w'.heap.size := Nat.le_trans (by have := SZ; simp; omega) gr'.size
              clear own' gr' FC))
          clear S0 S1 q0 q1 q2 q3 W1 W2
          go_wp2_with fail
          go_roundw
          case rel => exact ⟨j + 1, _, by omega, by go_num, rfl, GG4.out, Lib.hid (by rw [SN.out]; exact OW4.out)⟩
          case measure => simp [intOf]; omega
        · have KL : Hid (j = q.length) := Lib.hid (by omega)
          clear GW1
          go_wp2_with fail
          go_roundw
          case rel => exact ⟨i + 1, _, by omega, by go_num, rfl, GW.out, Lib.hid (by rw [← PA.out, ← KL.out]; exact OW.out)⟩
          case measure => simp [intOf]; omega
    · have KL : Hid (i = p.length) := Lib.hid (by omega)
      obtain ⟨b3, o3, c3, rfl, row⟩ := OW0.out.sl.row (fun e => by
        have t1 := congrArg List.length e
        rw [sums_len, List.length_take, List.length_nil] at t1
        have t2 := HL.out
        have t3 := KL.out
        have := Nat.mul_pos (show 0 < min i p.length by omega) (show 0 < q.length by omega)
        omega)
      have e1 : Hid (sums (p.take i) q = sums p q) := Lib.hid (by rw [KL.out, List.take_length])
      have AR := Lib.hid (around_w (sums (p.take i) q) b3 o3 c3 wr row (by rw [e1.out, sums_len]; have := HL.out; exact Nat.mul_pos (by omega) (by omega)) (by rw [e1.out, sums_len]; have := Nat.mul_le_mul HL.out.1.2 HL.out.2.2; omega) (by rw [e1.out]; exact sums_pws HP.out HQ.out))
      have GW := Lib.hid GW0
      clear row GW0
      go_wp2_with fail
      refine (AR.out).mono ?_
      rintro e w3 ⟨v, s, hq, rfl, hv, g3⟩
      have HS := Lib.hid hq
      have HV := Lib.hid hv
      have G3 := Lib.hid (Grew.trans GW.out g3)
      clear hq hv g3
      go_wp2_with fail
      go_ret
      exact ⟨v, s, by have := HS.out; rwa [e1.out] at this, rfl, HV.out, G3.out⟩
end Mk
end Go.Proofs.Yteglefjnbkocgaa
