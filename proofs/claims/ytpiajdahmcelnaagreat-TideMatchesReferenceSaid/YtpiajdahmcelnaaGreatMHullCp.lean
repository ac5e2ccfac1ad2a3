/-
  The landed sorted, with what slices.Clone, slices.SortFunc and slices.Compact leave.
-/
import Derived.Deep.LoopGhost
import Derived.Lib.SlicesCompact
import Derived.Lib.SliceRun
import Derived.Test.YtpiajdahmcelnaaGreatMHullLay
import Derived.Test.YtpiajdahmcelnaaGreatMHullSame
import Derived.Test.YtpiajdahmcelnaaGreatMHullCon
namespace Go.Proofs.YtpiajdahmcelnaaGreat
open Go.RowKit Go.Shelf Go.Sort
namespace Hl
abbrev PPt := { x : Pt // Plc x }
instance : Inhabited PPt := ⟨⟨(0, 0), by unfold Plc; simp⟩⟩
def enc2 (x : PPt) : List Value := [.int .i64 x.1.1, .int .i64 x.1.2]
def cf (x y : PPt) : Int := if x.1.1 = y.1.1 then x.1.2 - y.1.2 else x.1.1 - y.1.1
theorem lt_ls (x y : PPt) : ltOf cf x y = decide (ls x.1 y.1) := by
  unfold ltOf cf
  rw [decide_eq_decide]
  unfold ls
  split <;> omega
theorem swo : SWO (ltOf cf) where
  irrefl x := by rw [lt_ls, decide_eq_false_iff_not]; exact ls_irrefl _
  trans x y z h1 h2 := by
    rw [lt_ls, decide_eq_true_eq] at *
    exact ls_trans h1 h2
  ntrans x y z h1 h2 := by
    rw [lt_ls, decide_eq_false_iff_not] at *
    unfold ls at *
    omega
set_option maxHeartbeats 1000000 in
theorem cmp_c (x y : PPt) (W : World) : Calls Tryz.prog 90 #[.agg #[.int .i64 x.1.1, .int .i64 x.1.2], .agg #[.int .i64 y.1.1, .int .i64 y.1.2]] W fun e w' => e = .returned (.int .i64 (cf x y)) ∧ ∃ q os', w' = grow (W.drewN q) os' := by
  obtain ⟨⟨a, b⟩, ⟨h0, h1⟩, ⟨h2, h3⟩⟩ := x
  obtain ⟨⟨c, d⟩, ⟨k0, k1⟩, ⟨k2, k3⟩⟩ := y
  simp only at h0 h1 h2 h3 k0 k1 k2 k3
  unfold cf
  simp only
  by_cases e : a = c
  · subst e
    rw [if_pos rfl]
    go_enter Tryz.func90, Tryz.ntmps90
    go_wp2_with fail
    go_ret
    exact ⟨rfl, 0, _, by rw [alloc_eq_grow, alloc_eq_grow, grow_grow]; rfl⟩
  · rw [if_neg e]
    have e' : (a == c) = false := by rw [beq_eq_false_iff_ne]; exact e
    have e'' : (a != c) = true := by simp [e]
    go_enter Tryz.func90, Tryz.ntmps90
    go_wp2_with fail
    go_ret
    exact ⟨rfl, 0, _, by rw [alloc_eq_grow, alloc_eq_grow, grow_grow]; rfl⟩
theorem clone_c (l : List Pt) (b o c : Nat) (w : World) (hr : Row w b o l) (hl : l.length ≤ 4000000) :
    Calls Tryz.prog 88 #[.slice (some ⟨b, o, none⟩) l.length c] w fun e w' => ∃ v, e = .returned v ∧ Own w.heap.size w' v l ∧ Grew w w' := by
  obtain ⟨i0, hi, hz0, hz1, hz2⟩ := info_parts info_pt
  have h := AnyE.slices_Clone cloneP i0 (.agg #[.int .i64 0, .int .i64 0]) 2 16 hi hz0 hz1 hz2 rfl (by decide) (fun w => Tryz.sizeOf30 w) b o l.length c (cellsOf l) w (cellsOf_len l) (by unfold maxLen; omega) (by omega) (fun j u hj => by
    have := row_cells hr j u hj
    rwa [Addr.add_lit] at this) (cells_one l)
  refine h.mono ?_
  rintro e w' ⟨v, rfl, h1, _, h3⟩
  exact ⟨v, rfl, h1, h3⟩
theorem list_pp {l : List Pt} (h : Plcs l) : ∃ d : List PPt, d.map Subtype.val = l := by
  induction l with
  | nil => exact ⟨[], rfl⟩
  | cons x l ih =>
    obtain ⟨d, hd⟩ := ih (fun i hi => h (i + 1) (by simp; omega))
    exact ⟨⟨x, h 0 (by simp)⟩ :: d, by simp [hd]⟩
theorem flat_pp (d : Array PPt) : flatK enc2 2 d = (cellsOf (d.toList.map Subtype.val)).toArray := by
  rw [← show flatK encP 2 (d.map Subtype.val) = (cellsOf (d.toList.map Subtype.val)).toArray by rw [flat_cells]; simp]
  unfold flatK
  rw [Array.size_map]
  apply Array.ext
  · simp
  · intro i h1 h2
    have hi : i / 2 < d.size := by simp at h1; omega
    simp [hi, enc2, encP]
def SortSays (l : List Pt) (B g cap : Nat) (w : World) (e : Ending) (w' : World) : Prop := e = .returned (.tuple #[]) ∧ ∃ q, q.length = l.length ∧ (∀ x, x ∈ q ↔ x ∈ l) ∧ (∀ i, i + 1 < q.length → ¬ ls (at' q (i + 1)) (at' q i)) ∧ OwnAt B w' g cap q ∧ w.grownBy w' (some g)
theorem sort_c (l : List Pt) (B g cap : Nat) (w : World) (ho : OwnAt B w g cap l) (hp : Plcs l) (hl : l.length ≤ 4000000) :
    Calls Tryz.prog 89 #[.slice (some ⟨g, 0, none⟩) l.length cap, .func (.func 90) #[] #[]] w (SortSays l B g cap w) := by
  obtain ⟨d, rfl⟩ := list_pp hp
  have eg : ∀ args w, (callFunc 90 args).run Tryz.prog w = .ok (.enter 90 args) w := enters_of Tryz.func90 (by kernel_rfl) rfl
  have hH : HoldsK enc2 2 w g 0 d.toArray := by
    unfold HoldsK
    rw [flat_pp]
    exact ho.holds
  have h := AnyQ.slices_SortFunc sortP 2 (fun w => Tryz.isAgg30 w) (fun w => Tryz.sizeOf30 w) enc2 (fun _ => rfl) (fun x v hv => by simp [enc2] at hv; rcases hv with rfl | rfl <;> rfl) cf swo 90 #[] g 0 cap d.toArray w eg
    (fun _ _ _ _ x y => cmp_c x y _) hH ho.lt (by simp at hl ⊢; omega)
  rw [List.length_map]
  refine h.mono ?_
  rintro e w' ⟨rfl, d', n, os, hP, hS, rfl⟩
  have hsz : d'.size = d.length := by rw [hP.1]; simp
  have hperm : d'.toList.Perm d := by
    have h := hP.2.2
    have e1 : d.take d'.size = d := List.take_of_length_le (by omega)
    rw [List.size_toArray, ← hsz] at h
    simpa [e1] using h
  refine ⟨rfl, d'.toList.map Subtype.val, by simp [hsz], ?_, ?_, ?_, ?_⟩
  · intro x
    rw [List.mem_map, List.mem_map]
    exact ⟨fun ⟨a, ha, e⟩ => ⟨a, hperm.mem_iff.1 ha, e⟩, fun ⟨a, ha, e⟩ => ⟨a, hperm.mem_iff.2 ha, e⟩⟩
  · intro i hi
    rw [List.length_map, Array.length_toList] at hi
    have hs := hS i (i + 1) (Nat.zero_le _) (by omega) (by rw [List.size_toArray]; omega)
    rw [lt_ls, decide_eq_false_iff_not] at hs
    have ed : ∀ j, j < d'.size → at' (d'.toList.map Subtype.val) j = d'[j]!.1 := fun j hj => by
      unfold at'
      simp [List.getD, hj, getElem!_pos]
    rw [ed _ hi, ed _ (by omega)]
    exact hs
  · unfold sortWorldK putRowK
    rw [flat_pp]
    exact ho.put (by simp [hsz])
  · exact grownBy_put _ _ _ _ _
end Hl
end Go.Proofs.YtpiajdahmcelnaaGreat
namespace Go.Proofs.YtpiajdahmcelnaaGreat
open Go.RowKit Go.Shelf Go.Sort Go.Lib
namespace Hl
theorem at_arr {d : Array Pt} {i : Nat} (hi : i < d.size) : at' d.toList i = d[i]! := by
  unfold at'
  simp [List.getD, hi, getElem!_pos]
theorem OwnAt.arr {B : Nat} {w : World} {g cap : Nat} {d : Array Pt} (h : OwnAt B w g cap d.toList) {i : Nat} (hi : i < d.size) : w.cell? ⟨g, i * 2, none⟩ = some (.int .i64 d[i]!.1) ∧ w.cell? ⟨g, i * 2 + 1, none⟩ = some (.int .i64 d[i]!.2) := by
  have := h.cells (i := i) (by simpa using hi)
  rwa [at_arr hi] at this
theorem run_clear_points (w : World) (ty : TypeId) (g k n c : Nat) (hn : 0 < n) (hc : ∀ j, j < n * 2 → (w.cell? ⟨g, k * 2 + j, none⟩).isSome = true) (hf : ∀ j, j < n * 2 → w.frozen? ⟨g, k * 2 + j, none⟩ = false) :
    (Builtin.clear_ #[38] ty #[.slice (some ⟨g, k * 2, none⟩) n c]).run Tryz.prog w = .ok (.tuple #[]) (w.setCells g (k * 2) (List.replicate (n * 2) (.int .i64 0))) := by
  have hz : (Builtin.zeroCells (Value.agg #[.int .i64 0, .int .i64 0]).cells n).toList = List.replicate (n * 2) (.int .i64 0) := by
    apply List.ext_getElem
    · simp [Builtin.zeroCells, Value.cells]
    · intro i h1 h2
      have h3 : i % 2 = 0 ∨ i % 2 = 1 := by omega
      rcases h3 with h3 | h3 <;> simp [Builtin.zeroCells, Value.cells, h3]
  have hst := run_storeCells_cells (P := Tryz.prog) g (k * 2) (List.replicate (n * 2) (.int .i64 0)) 0 w (by simpa using hc) (by simpa using hf) (by intro v hv'; rw [List.eq_of_mem_replicate hv']; rfl)
  simp only [Nat.add_zero] at hst
  obtain ⟨m, rfl⟩ : ∃ m, n = m + 1 := ⟨n - 1, by omega⟩
  have hv := fun w => Tryz.zeroValue30 w
  simp [Builtin.clear_, run_underlying Tryz.underlying38, hv, hz, hst]
def CompactSays (d : Array Pt) (B g cap : Nat) (w : World) (e : Ending) (w' : World) : Prop := e = .returned (.slice (some ⟨g, 0, none⟩) (compactUpTo d d.size).length cap) ∧ OwnAt B w' g cap (compactUpTo d d.size) ∧ w.grownBy w' (some g)
theorem compact_same {d : Array Pt} (h : ∀ j, j < d.size → keeps d j = true) : compactUpTo d d.size = d.toList := by rw [compactUpTo_all d _ h, range_map_get]
set_option maxHeartbeats 4000000 in
set_option maxRecDepth 100000 in
theorem compact_c (d : Array Pt) (B g cap : Nat) (w : World) (ho : OwnAt B w g cap d.toList) (hl : d.size ≤ 4000000) :
    Calls Tryz.prog 91 #[.slice (some ⟨g, 0, none⟩) d.size cap] w (CompactSays d B g cap w) := by
  have hcap : d.size ≤ cap := by have := ho.2.1; simpa using this
  have hmax : cap ≤ 9223372036854775807 := ho.2.2.1
  have HO := Lib.hid ho
  have same : Hid (∀ wf, (∀ j, j < d.size → keeps d j = true) → OwnAt B wf g cap d.toList → w.grownBy wf (some g) → CompactSays d B g cap w (.returned (.slice (some ⟨g, 0, none⟩) d.size cap)) wf) := Lib.hid (fun wf h1 h2 h3 => by
    unfold CompactSays
    rw [compact_same h1]
    exact ⟨by simp, h2, h3⟩)
  clear ho
  by_cases h2 : d.size < 2
  · go_enter Tryz.func91, Tryz.ntmps91
    go_wp2_with fail
    go_ret
    exact same.out w (fun j hj => keeps_lt_one d j (by omega)) HO.out (grownBy_refl _ _)
  · go_enter Tryz.func91, Tryz.ntmps91
    go_wp2_with fail
    go_loopg [3] d.size (fun gh s3 wr => ∃ k : Nat, 1 ≤ k ∧ k ≤ d.size ∧ d.size - k ≤ gh ∧ s3 = .int .i64 k ∧ Hid (OwnAt B wr g cap d.toList ∧ w.grownBy wr (some g)) ∧ Hid (∀ j, j < k → keeps d j = true))
    case atStart => exact ⟨1, Nat.le_refl _, by omega, by omega, rfl, Lib.hid ⟨HO.out, grownBy_refl _ _⟩, Lib.hid (keeps_lt_one d)⟩
    case round =>
      obtain ⟨k, hk1, hk, hg, rfl, HW, HA⟩ := hrel
      by_cases hlt : k < d.size
      · obtain ⟨c0, c1⟩ := HW.out.1.arr hlt
        obtain ⟨p0, p1⟩ := HW.out.1.arr (i := k - 1) (by omega)
        obtain ⟨⟨x1, x2⟩, hx⟩ : ∃ x, d[k]! = x := ⟨_, rfl⟩
        obtain ⟨⟨y1, y2⟩, hy⟩ : ∃ y, d[k - 1]! = y := ⟨_, rfl⟩
        rw [hx] at c0 c1
        rw [hy] at p0 p1
        simp only at c0 c1 p0 p1
        have HX := Lib.hid hx
        have HY := Lib.hid hy
        have gB := HW.out.1.lt
        clear hx hy
        have e1 : ((k : Int) - 1) = ((k - 1 : Nat) : Int) := by omega
        have e2 : (0 : Int) ≤ (k : Int) - 1 := by omega
        have e3 : (k : Int) - 1 < (d.size : Int) := by omega
        have e4 : ((k : Int) - 1).toNat = k - 1 := by omega
        have i1 : (k : Int) < (d.size : Int) := by omega
        have hxy : (x1 = y1 ∧ x2 = y2) ∨ ¬ (x1 = y1 ∧ x2 = y2) := Classical.em _
        rcases hxy with ⟨rfl, rfl⟩ | hne
        · go_wp2_with fail
          go_quiet (fail)
          go_wp2_with fail
          have DUP := Lib.hid (show keeps d k = false from keeps_neg (by omega) (by rw [HX.out, HY.out]))
          clear c0 c1 p0 p1 e1 e2 e3 e4 HX HY
          go_loopg [3, 5] d.size (fun gh s3 s5 wr => ∃ (kk k2 : Nat) (dk : Array Pt), s3 = .int .i64 kk ∧ s5 = .int .i64 k2 ∧ 1 ≤ k2 ∧ k + k2 ≤ d.size ∧ d.size - (k + k2) ≤ gh ∧ Hid (OwnAt B wr g cap dk.toList ∧ w.grownBy wr (some g)) ∧ Hid (CompInv d (k + k2) kk dk))
          case atStart => exact ⟨k, 1, d, rfl, rfl, Nat.le_refl _, by omega, by omega, Lib.hid ⟨HW.out.1.grew ((Grew.refl _).drewN _), grownBy_trans HW.out.2 (grownBy_drawN _ _ _)⟩, Lib.hid (CompInv.start HA.out DUP.out)⟩
          case round =>
            obtain ⟨kk, k2, dk, rfl, rfl, h1, hle, hg2, HK, HI⟩ := hrel
            have hkk := HI.out.lt
            have hds := HI.out.size
            by_cases hlt2 : k + k2 < d.size
            · obtain ⟨m0, m1⟩ := HK.out.1.arr (i := k + k2) (by omega)
              obtain ⟨q0, q1⟩ := HK.out.1.arr (i := k + k2 - 1) (by omega)
              obtain ⟨r0, r1⟩ := HK.out.1.arr (i := kk) (by omega)
              have f0 := HK.out.1.frozen (kk * 2)
              have f1 := HK.out.1.frozen (kk * 2 + 1)
              rw [HI.out.high (k + k2) (by omega), show (k + k2) * 2 = k * 2 + k2 * 2 by omega] at m0 m1
              rw [HI.out.high (k + k2 - 1) (by omega), show (k + k2 - 1) * 2 = k * 2 + (k2 - 1) * 2 by omega] at q0 q1
              obtain ⟨⟨u1, u2⟩, hu⟩ : ∃ x, d[k + k2]! = x := ⟨_, rfl⟩
              obtain ⟨⟨v1, v2⟩, hv⟩ : ∃ y, d[k + k2 - 1]! = y := ⟨_, rfl⟩
              rw [hu] at m0 m1
              rw [hv] at q0 q1
              simp only at m0 m1 q0 q1
              have HU := Lib.hid hu
              have HV := Lib.hid hv
              have gB2 := HK.out.1.lt
              clear hu hv
              have e1 : ((k2 : Int) - 1) = ((k2 - 1 : Nat) : Int) := by omega
              have e2 : (0 : Int) ≤ (k2 : Int) - 1 := by omega
              have e3 : (k2 : Int) - 1 < ((d.size - k : Nat) : Int) := by omega
              have e4 : ((k2 : Int) - 1).toNat = k2 - 1 := by omega
              have i2 : (k2 : Int) < ((d.size - k : Nat) : Int) := by omega
              have i3 : (kk : Int) < (d.size : Int) := by omega
              have i4 : kk < d.size := by omega
              have huv : (u1 = v1 ∧ u2 = v2) ∨ ¬ (u1 = v1 ∧ u2 = v2) := Classical.em _
              rcases huv with ⟨rfl, rfl⟩ | hne
              · go_wp2_with fail
                go_quiet (fail)
                go_wp2_with fail
                go_roundg (d.size - (k + (k2 + 1)))
                case measure => omega
                case rel => exact ⟨kk, k2 + 1, dk, rfl, by go_num, by omega, by omega, Nat.le_refl _, Lib.hid ⟨HK.out.1.grew ((Grew.refl _).drewN _), grownBy_trans HK.out.2 (grownBy_drawN _ _ _)⟩, Lib.hid (HI.out.skip (keeps_neg (by omega) (by rw [HU.out, HV.out])))⟩
              · have KEEP := Lib.hid (HI.out.keep hlt2 (keeps_pos (by rw [HU.out, HV.out]; exact fun h => hne ⟨congrArg Prod.fst h, congrArg Prod.snd h⟩)))
                have SETS := Lib.hid (show OwnAt B ((wr.setCell ⟨g, kk * 2, none⟩ (.int .i64 u1)).setCell ⟨g, kk * 2 + 1, none⟩ (.int .i64 u2)) g cap (dk.setIfInBounds kk d[k + k2]!).toList by
                  rw [HU.out, Array.toList_setIfInBounds]
                  exact HK.out.1.set (by simp; omega) (u1, u2))
                by_cases eu : u1 = v1
                · have ev : ¬ u2 = v2 := fun h => hne ⟨eu, h⟩
                  have ev' : (u2 == v2) = false := by rw [beq_eq_false_iff_ne]; exact ev
                  clear hne
                  subst eu
                  go_wp2_with fail
                  go_quiet (fail)
                  go_wp2_with fail
                  go_roundg (d.size - (k + (k2 + 1)))
                  case measure => omega
                  case rel => exact ⟨kk + 1, k2 + 1, _, by go_num, by go_num, by omega, by omega, Nat.le_refl _, Lib.hid ⟨SETS.out.grew ((Grew.refl _).drewN _), grownBy_trans (grownBy_trans (grownBy_trans HK.out.2 (grownBy_setCell _ _ _ _)) (grownBy_setCell _ _ _ _)) (grownBy_drawN _ _ _)⟩, KEEP⟩
                · have eu' : (u1 == v1) = false := by rw [beq_eq_false_iff_ne]; exact eu
                  clear hne
                  go_wp2_with fail
                  go_quiet (fail)
                  go_wp2_with fail
                  go_roundg (d.size - (k + (k2 + 1)))
                  case measure => omega
                  case rel => exact ⟨kk + 1, k2 + 1, _, by go_num, by go_num, by omega, by omega, Nat.le_refl _, Lib.hid ⟨SETS.out.grew ((Grew.refl _).drewN _), grownBy_trans (grownBy_trans (grownBy_trans HK.out.2 (grownBy_setCell _ _ _ _)) (grownBy_setCell _ _ _ _)) (grownBy_drawN _ _ _)⟩, KEEP⟩
            · have hend : k + k2 = d.size := by omega
              have hcl : ∀ ty, (Builtin.clear_ #[38] ty #[.slice (some ⟨g, kk * 2, none⟩) (d.size - kk) (cap - kk)]).run Tryz.prog wr = .ok (.tuple #[]) (wr.setCells g (kk * 2) (List.replicate ((d.size - kk) * 2) (.int .i64 0))) :=
                fun ty => run_clear_points wr ty g kk _ _ (by omega) (fun j hj => HK.out.1.there (by omega)) (fun j hj => HK.out.1.frozen _)
              have hlen : (compactUpTo d d.size).length = kk := by have := HI.out.len; rwa [hend] at this
              have FIN : Hid (OwnAt B (wr.setCells g (kk * 2) (List.replicate ((d.size - kk) * 2) (.int .i64 0))) g cap (compactUpTo d d.size) ∧ w.grownBy (wr.setCells g (kk * 2) (List.replicate ((d.size - kk) * 2) (.int .i64 0))) (some g)) := Lib.hid (by
                have et : dk.toList.take kk = compactUpTo d d.size := by
                  apply List.ext_getElem?
                  intro j
                  by_cases hj : j < kk
                  · have := HI.out.low j hj
                    rw [hend] at this
                    rw [List.getElem?_take_of_lt hj, this, Array.getElem?_toList, getElem!_pos dk j (by omega), Array.getElem?_eq_getElem]
                  · rw [List.getElem?_eq_none (by simp; omega), List.getElem?_eq_none (by omega)]
                have h := (HK.out.1.take kk).beyonds (List.replicate ((d.size - kk) * 2) (.int .i64 0)) _ (kk * 2) (by simp; omega)
                rw [et] at h
                exact ⟨h, grownBy_trans HK.out.2 (grownBy_setCells _ _ _ _)⟩)
              have HL := Lib.hid hlen
              have kc : kk ≤ cap := by omega
              have k9 : kk ≤ 9223372036854775807 := by omega
              have kd : kk ≤ d.size := by omega
              clear hlen
              go_wp2_with fail
              go_ret
              exact ⟨by rw [HL.out]; rfl, FIN.out.1, FIN.out.2⟩
        · have KEEP := Lib.hid (show keeps d k = true from keeps_pos (by rw [HX.out, HY.out]; exact fun h => hne ⟨congrArg Prod.fst h, congrArg Prod.snd h⟩))
          have ALL : Hid (∀ j, j < k + 1 → keeps d j = true) := Lib.hid (fun j hj => by
            by_cases e : j = k
            · rw [e]; exact KEEP.out
            · exact HA.out j (by omega))
          by_cases eu : x1 = y1
          · have ev : ¬ x2 = y2 := fun h => hne ⟨eu, h⟩
            have ev' : (x2 == y2) = false := by rw [beq_eq_false_iff_ne]; exact ev
            clear hne
            subst eu
            go_wp2_with fail
            go_quiet (fail)
            go_wp2_with fail
            go_roundg (d.size - (k + 1))
            case measure => omega
            case rel => exact ⟨k + 1, by omega, by omega, Nat.le_refl _, by go_num, Lib.hid ⟨HW.out.1.grew ((Grew.refl _).drewN _), grownBy_trans HW.out.2 (grownBy_drawN _ _ _)⟩, ALL⟩
          · have eu' : (x1 == y1) = false := by rw [beq_eq_false_iff_ne]; exact eu
            clear hne
            go_wp2_with fail
            go_quiet (fail)
            go_wp2_with fail
            go_roundg (d.size - (k + 1))
            case measure => omega
            case rel => exact ⟨k + 1, by omega, by omega, Nat.le_refl _, by go_num, Lib.hid ⟨HW.out.1.grew ((Grew.refl _).drewN _), grownBy_trans HW.out.2 (grownBy_drawN _ _ _)⟩, ALL⟩
      · obtain rfl : k = d.size := by omega
        go_wp2_with fail
        go_ret
        exact same.out _ HA.out HW.out.1 HW.out.2
end Hl
end Go.Proofs.YtpiajdahmcelnaaGreat
namespace Go.Proofs.YtpiajdahmcelnaaGreat
open Go.RowKit Go.Shelf Go.Sort Go.Lib
namespace Hl
theorem compact_props {d : Array Pt} (hs : ∀ i, i + 1 < d.size → ¬ ls d[i + 1]! d[i]!) : ∀ m, m ≤ d.size → (∀ x, x ∈ compactUpTo d m ↔ ∃ j, j < m ∧ d[j]! = x) ∧ (∀ i, i + 1 < (compactUpTo d m).length → ls (at' (compactUpTo d m) i) (at' (compactUpTo d m) (i + 1))) ∧
    (1 ≤ m → 1 ≤ (compactUpTo d m).length ∧ at' (compactUpTo d m) ((compactUpTo d m).length - 1) = d[m - 1]!) ∧ (compactUpTo d m).length ≤ m := by
  intro m
  induction m with
  | zero =>
    intro _
    have e : compactUpTo d 0 = [] := rfl
    rw [e]
    exact ⟨fun x => ⟨fun h => (by cases h), fun ⟨j, hj, _⟩ => absurd hj (Nat.not_lt_zero _)⟩, fun i hi => (by simp at hi), fun h => (by omega), Nat.le_refl _⟩
  | succ m ih =>
    intro hm
    obtain ⟨h1, h2, h3, h4⟩ := ih (by omega)
    rw [compactUpTo_succ]
    by_cases hk : keeps d m = true
    · rw [if_pos hk]
      obtain ⟨C, hC⟩ : ∃ C, compactUpTo d m = C := ⟨_, rfl⟩
      rw [hC] at h1 h2 h3 h4 ⊢
      refine ⟨fun x => ?_, fun i hi => ?_, fun _ => ⟨by simp, ?_⟩, by simp; omega⟩
      · rw [List.mem_append, List.mem_singleton, h1]
        constructor
        · rintro (⟨j, hj, e⟩ | e)
          · exact ⟨j, by omega, e⟩
          · exact ⟨m, by omega, e.symm⟩
        · rintro ⟨j, hj, e⟩
          by_cases ej : j = m
          · rw [ej] at e; exact Or.inr e.symm
          · exact Or.inl ⟨j, by omega, e⟩
      · rw [List.length_append, List.length_singleton] at hi
        by_cases ei : i + 1 = C.length
        · rw [at_append (by omega), ei, at_last]
          by_cases m0 : m = 0
          · subst m0
            omega
          · obtain ⟨l1, l2⟩ := h3 (by omega)
            rw [show i = C.length - 1 by omega, l2]
            have hne : d[m]! ≠ d[m - 1]! := by
              unfold keeps at hk
              rw [decide_eq_true_eq] at hk
              exact hk.resolve_left m0
            have hw := hs (m - 1) (by omega)
            rw [show m - 1 + 1 = m by omega] at hw
            rcases ls_total d[m - 1]! d[m]! with h | h | h
            · exact h
            · exact absurd h.symm hne
            · exact absurd h hw
        · rw [at_append (by omega), at_append (by omega)]
          exact h2 i (by omega)
      · rw [List.length_append, List.length_singleton, Nat.add_sub_cancel, at_last, Nat.add_sub_cancel]
    · rw [if_neg hk, List.append_nil]
      have hm0 : m ≠ 0 ∧ d[m]! = d[m - 1]! := by
        unfold keeps at hk
        rw [decide_eq_true_eq] at hk
        exact ⟨fun h => hk (Or.inl h), Classical.byContradiction fun h => hk (Or.inr h)⟩
      refine ⟨fun x => ?_, h2, fun _ => ?_, by omega⟩
      · rw [h1]
        constructor
        · rintro ⟨j, hj, e⟩; exact ⟨j, by omega, e⟩
        · rintro ⟨j, hj, e⟩
          by_cases ej : j = m
          · exact ⟨m - 1, by omega, by rw [← hm0.2, ← ej]; exact e⟩
          · exact ⟨j, by omega, e⟩
      · rw [Nat.add_sub_cancel, hm0.2]
        exact h3 (by omega)
def SortedSays (l : List Pt) (w : World) (e : Ending) (w' : World) : Prop := ∃ g cap q, e = .returned (.slice (some ⟨g, 0, none⟩) q.length cap) ∧ OwnAt w.heap.size w' g cap q ∧ 1 ≤ q.length ∧ q.length ≤ l.length ∧ (∀ x, x ∈ q ↔ x ∈ l) ∧ (∀ i, i + 1 < q.length → ls (at' q i) (at' q (i + 1))) ∧ Grew w w'
theorem sorted_c (l : List Pt) (b o c : Nat) (w : World) (hr : Row w b o l) (hp : Plcs l) (h1 : 1 ≤ l.length) (hl : l.length ≤ 4000000) :
    Calls Tryz.prog 73 #[.slice (some ⟨b, o, none⟩) l.length c] w (SortedSays l w) := by
  have CL := Lib.hid (clone_c l b o c w hr hl)
  have PL := Lib.hid hp
  have L1 : l ≠ [] := fun e => by rw [e] at h1; simp at h1
  clear hr hp
  go_enter Tryz.func73, Tryz.ntmps73
  go_wp2_with fail
  refine CL.out.mono ?_
  rintro e w1 ⟨v, rfl, ho, g1⟩
  obtain ⟨g, cap, rfl, ha⟩ := ho.at L1
  have SC := Lib.hid (sort_c l w.heap.size g cap w1 ha PL.out hl)
  have HA := Lib.hid (And.intro ha g1)
  clear CL ho ha g1
  go_wp2_with fail
  refine SC.out.mono ?_
  rintro e w2 ⟨rfl, q, hq, hmem, hsort, hown, hgr⟩
  have CC := Lib.hid (compact_c q.toArray w.heap.size g cap w2 hown (by simp; omega))
  rw [List.size_toArray, hq] at CC
  have PR := compact_props (d := q.toArray) (fun i hi => by
    have := hsort i (by simpa using hi)
    rwa [show q = q.toArray.toList from rfl, at_arr (by simpa using hi), at_arr (by simp at hi ⊢; omega)] at this) q.toArray.size (Nat.le_refl _)
  have PR := Lib.hid PR
  have MEM : Hid (∀ x, x ∈ compactUpTo q.toArray q.toArray.size ↔ x ∈ l) := Lib.hid (fun x => by
    rw [PR.out.1, ← hmem]
    constructor
    · rintro ⟨j, hj, e⟩
      rw [← e, ← at_arr (d := q.toArray) hj]
      exact at_mem (by simpa using hj)
    · intro hx
      obtain ⟨j, hj, e⟩ := mem_at hx
      exact ⟨j, by simpa using hj, by rw [← at_arr (d := q.toArray) (by simpa using hj)]; exact e⟩)
  have HG := Lib.hid hgr
  have HQ := Lib.hid hq
  have hB := Lib.hid hown.1
  clear SC hsort hmem hown hgr hq
  go_wp2_with fail
  refine CC.out.mono ?_
  rintro e w3 ⟨rfl, hown, hgr⟩
  have FIN : Hid (SortedSays l w (.returned (.slice (some ⟨g, 0, none⟩) (compactUpTo q.toArray q.toArray.size).length cap)) w3) := Lib.hid (by
    have hz := PR.out.2.2
    have hs : q.toArray.size = l.length := by rw [List.size_toArray, HQ.out]
    exact ⟨g, cap, _, rfl, hown, (hz.1 (by omega)).1, by rw [← hs]; exact hz.2, MEM.out, PR.out.2.1, (HA.out.2.grown HG.out (fun k hk => by cases hk; exact hB.out)).grown hgr (fun k hk => by cases hk; exact hB.out)⟩)
  rw [List.size_toArray] at FIN
  clear hown hgr CC PR MEM
  go_wp2_with fail
  go_ret
  exact FIN.out
end Hl
end Go.Proofs.YtpiajdahmcelnaaGreat
