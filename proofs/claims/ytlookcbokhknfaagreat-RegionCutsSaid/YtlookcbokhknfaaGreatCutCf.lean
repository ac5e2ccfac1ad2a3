/-
  The landed maxFunc, minFunc, eight corners, or, least.
-/
import Derived.Test.YtlookcbokhknfaaGreatCutCb
import Derived.Test.YtlookcbokhknfaaGreatHullBar
import Derived.Test.YtlookcbokhknfaaGreatHullChain
import Derived.Test.YtlookcbokhknfaaGreatHullCm
namespace Go.Proofs.YtlookcbokhknfaaGreat
open Go.RowKit Go.Shelf Hl
namespace Ct
def Best (R : Pt → Pt → Prop) (l : List Pt) (k : Nat) (m : Pt) : Prop := m ∈ l ∧ ∀ j, j < k → R m (at' l j)
theorem Best.yes {R : Pt → Pt → Prop} (hrf : ∀ x, R x x) (htr : ∀ x y z, R x y → R y z → R x z) {l : List Pt} {k : Nat} {m : Pt} (hk : k < l.length) (h : Best R l k m) (c : R (at' l k) m) : Best R l (k + 1) (at' l k) :=
  ⟨at_mem hk, fun j hj => by
    by_cases e : j = k
    · rw [e]; exact hrf _
    · exact htr _ _ _ c (h.2 j (by omega))⟩
theorem Best.no {R : Pt → Pt → Prop} {l : List Pt} {k : Nat} {m : Pt} (_hk : k < l.length) (h : Best R l k m) (c : R m (at' l k)) : Best R l (k + 1) m :=
  ⟨h.1, fun j hj => by
    by_cases e : j = k
    · rw [e]; exact c
    · exact h.2 j (by omega)⟩
theorem Best.all {R : Pt → Pt → Prop} {l : List Pt} {m : Pt} (h : Best R l l.length m) : m ∈ l ∧ ∀ y, y ∈ l → R m y := ⟨h.1, fun y hy => by
  obtain ⟨j, hj, e⟩ := mem_at hy
  rw [← e]; exact h.2 j hj⟩
def BestSays (R : Pt → Pt → Prop) (l : List Pt) (w : World) (e : Ending) (w' : World) : Prop := ∃ m : Pt, (m ∈ l ∧ ∀ y, y ∈ l → R m y) ∧ e = .returned (.agg #[.int .i64 m.1, .int .i64 m.2]) ∧ Grew w w'

set_option maxRecDepth 100000 in
set_option maxHeartbeats 8000000 in
theorem maxf_c (g : Nat) (cb : Array Value) (cv : Pt → Pt → Int) (R : Pt → Pt → Prop) (hrf : ∀ x, R x x) (htr : ∀ x y z, R x y → R y z → R x z) (hy : ∀ x m, (0 < cv x m) → R x m) (hn : ∀ x m, ¬ (0 < cv x m) → R m x) (l : List Pt) (b o c : Nat) (w : World) (hr : Row w b o l) (h1 : 1 ≤ l.length) (h2 : l.length ≤ 4000000)
    (hC : ∀ x y W, x ∈ l → y ∈ l → Grew w W → Calls Tryz.prog g (#[.agg #[.int .i64 x.1, .int .i64 x.2], .agg #[.int .i64 y.1, .int .i64 y.2]] ++ cb) W fun e w' => e = .returned (.int .i64 (cv x y)) ∧ Grew W w') (eg : ∀ args w, (callFunc g args).run Tryz.prog w = .ok (.enter g args) w) :
    Calls Tryz.prog 168 #[.slice (some ⟨b, o, none⟩) l.length c, .func (.func g) #[] cb] w (BestSays R l w) := by
  have HR := Lib.hid hr
  have HC := Lib.hid hC
  have HB : Hid (∀ k m, (k < l.length ∧ Best R l k m) → ((0 < cv (at' l k) m) → Best R l (k + 1) (at' l k)) ∧ (¬ (0 < cv (at' l k) m) → Best R l (k + 1) m)) := Lib.hid (fun k m h => ⟨fun c => Best.yes hrf htr h.1 h.2 (hy _ _ c), fun c => Best.no h.1 h.2 (hn _ _ c)⟩)
  obtain ⟨s0, s1⟩ := hr.2 0 (by omega)
  rw [Nat.zero_mul, Nat.add_zero] at s0 s1
  have hb := hr.1
  have p0 : (0 : Int) < (l.length : Int) := by omega
  have p1 : ¬ (l.length : Int) < 1 := by omega
  have p2 : ¬ l.length = 0 := by omega
  have p3 : 0 < l.length := by omega
  have B1 : Hid (Best R l 1 (at' l 0)) := Lib.hid ⟨at_mem (by omega), fun j hj => by
    obtain rfl : j = 0 := by omega
    exact hrf _⟩
  have n1 : b < w.heap.size + 1 := by omega
  have T4 := Lib.hid (Two.new w 0 0 27)
  have T5 := Lib.hid (Two.new (w.alloc (.cells #[.int .i64 0, .int .i64 0] 27)) (at' l 0).1 (at' l 0).2 27)
  clear hr hC hrf htr hy hn
  go_enter Tryz.func168, Tryz.ntmps168
  go_wp2_with fail
  go_loopw [6] (fun i wr => ∃ (k : Nat) (m : Pt), (1 ≤ k ∧ k ≤ l.length) ∧ i = .int .i64 k ∧ Two wr (w.heap.size + 1) m.1 m.2 ∧ Two wr w.heap.size 0 0 ∧ Hid (Best R l k m) ∧ Grew w wr) (fun i _ => l.length - (intOf i).toNat)
  case atStart =>
    refine ⟨1, at' l 0, ⟨Nat.le_refl _, h1⟩, rfl, ?_, ?_, B1, (by (repeat' (first | (with_reducible exact Grew.refl _) | (with_reducible assumption) | (with_reducible refine Grew.alloc ?_ _ _) | (with_reducible refine Grew.drew ?_) | (with_reducible refine Grew.drewN ?_ _) | (with_reducible refine Grew.setCell ?_ ?_ _) | go_size)))⟩
    · have := T5.out
      rw [World.size_alloc] at this
      unfold Two at this ⊢
      simp [go_sem]
    · unfold Two
      simp [go_sem]
  case round =>
    clear T4 T5 B1 s0 s1
    obtain ⟨k, m, ⟨hk1, hk⟩, rfl, hT, hZ, BK, G⟩ := hrel
    by_cases hlt : k < l.length
    · have HB2 := Lib.hid (HB.out k m ⟨hlt, BK.out⟩)
      have ML : Hid (m ∈ l) := Lib.hid BK.out.1
      have XL : Hid (at' l k ∈ l) := Lib.hid (at_mem hlt)
      clear BK
      obtain ⟨q0, q1⟩ := (HR.out.grown G).2 k hlt
      have HT := Lib.hid hT
      have HZ := Lib.hid hZ
      obtain ⟨⟨t0, t1, t2⟩, t3, t4⟩ := hT
      have i0 : (0 : Int) ≤ (k : Int) := by omega
      have i1 : (k : Int) < (l.length : Int) := by omega
      obtain ⟨cc, hcc⟩ : ∃ cc, cv (at' l k) m = cc := ⟨_, rfl⟩
      have CC : Hid (∀ W, Grew w W → Calls Tryz.prog g (#[.agg #[.int .i64 (at' l k).1, .int .i64 (at' l k).2], .agg #[.int .i64 m.1, .int .i64 m.2]] ++ cb) W fun e w' => e = .returned (.int .i64 cc) ∧ Grew W w') := Lib.hid (fun W g => by rw [← hcc]; exact HC.out _ _ W XL.out ML.out g)
      rw [hcc] at HB2
      clear hcc ML XL
      by_cases hc : (0 < cc)
      all_goals
        go_wp2_with fail
        refine Bar.begin_ (S := (fun w' => (w'.cell? ⟨b, o + k * 2, none⟩ = some (.int .i64 (at' l k).1) ∧ w'.cell? ⟨b, o + k * 2 + 1, none⟩ = some (.int .i64 (at' l k).2)) ∧ w'.cell? ⟨w.heap.size + 1, 0, none⟩ = some (.int .i64 m.1) ∧ w'.cell? ⟨w.heap.size + 1, 1, none⟩ = some (.int .i64 m.2))) 6 (by kernel_rfl) (by simp [go_sem, *]) (fun hHeld => ?_)
        refine Bar.Walk.take [6] (i := 0) (oi := ⟨some 20, _, _, _, _, _⟩) (v := ?_) rfl (by kernel_rfl) (by kernel_rfl) (by kernel_rfl) (by kernel_rfl) (fun _ _ _ h => h) (Or.inl ⟨by rfl, ?_⟩) (by assumption) ?_
        rotate_left
        · intro w hSw; (try dsimp only at hSw); go_simp; (try with_reducible rfl)
        try simp only [Act.put, List.setIfInBounds_toArray, List.set_cons_zero, List.set_cons_succ]
        refine Bar.Walk.take [6, 4, 3] (i := 1) (oi := ⟨some 21, _, _, _, _, _⟩) (v := ?_) rfl (by kernel_rfl) (by kernel_rfl) (by kernel_rfl) (by kernel_rfl) (fun _ _ _ h => h) (Or.inl ⟨by rfl, ?_⟩) (by assumption) ?_
        rotate_left
        · intro w hSw; (try dsimp only at hSw); go_simp; (try with_reducible rfl)
        try simp only [Act.put, List.setIfInBounds_toArray, List.set_cons_zero, List.set_cons_succ]
        refine Bar.Walk.take [6, 4, 3] (i := 2) (oi := ⟨some 22, _, _, _, _, _⟩) (v := ?_) rfl (by kernel_rfl) (by kernel_rfl) (by kernel_rfl) (by kernel_rfl) (fun _ _ _ h => h) (Or.inl ⟨by rfl, ?_⟩) (by assumption) ?_
        rotate_left
        · intro w hSw; (try dsimp only at hSw); go_simp; (try with_reducible rfl)
        try simp only [Act.put, List.setIfInBounds_toArray, List.set_cons_zero, List.set_cons_succ]
        refine Bar.Walk.take [6, 4] (i := 3) (oi := ⟨some 23, _, _, _, _, _⟩) (v := ?_) rfl (by kernel_rfl) (by kernel_rfl) (by kernel_rfl) (by kernel_rfl) (fun _ _ _ h => h) (Or.inl ⟨by rfl, ?_⟩) (by assumption) ?_
        rotate_left
        · intro w hSw; (try dsimp only at hSw); go_simp; (try with_reducible rfl)
        try simp only [Act.put, List.setIfInBounds_toArray, List.set_cons_zero, List.set_cons_succ]
        refine Bar.Walk.take [6] (i := 4) (oi := ⟨some 24, _, _, _, _, _⟩) (v := ?_) rfl (by kernel_rfl) (by kernel_rfl) (by kernel_rfl) (by kernel_rfl) (fun _ _ _ h => h) (Or.inl ⟨by rfl, ?_⟩) (by assumption) ?_
        rotate_left
        · intro w hSw; (try dsimp only at hSw); go_simp; (try with_reducible rfl)
        try simp only [Act.put, List.setIfInBounds_toArray, List.set_cons_zero, List.set_cons_succ]
        refine Bar.Walk.take [6] (i := 5) (oi := ⟨some 25, _, _, _, _, _⟩) (v := ?_) rfl (by kernel_rfl) (by kernel_rfl) (by kernel_rfl) (by kernel_rfl) (fun _ _ _ h => h) (Or.inl ⟨by rfl, ?_⟩) (by assumption) ?_
        rotate_left
        · intro w hSw; (try dsimp only at hSw); go_simp; (try with_reducible rfl)
        try simp only [Act.put, List.setIfInBounds_toArray, List.set_cons_zero, List.set_cons_succ]
        refine Bar.Walk.pass (o := ⟨some 26, _, _, _, _, _⟩) (by kernel_rfl) rfl (by kernel_rfl) (fun K hK => ?_)
        go_simp
        refine (CC.out _ (Grew.drew G)).mono ?_
        rintro e w1 ⟨rfl, gw⟩
        have G1 : Grew w w1 := Grew.trans (Grew.drew G) gw
        have HT1 := HT.out.grown (Grew.trans (Grew.drew (Grew.refl _)) gw)
        have HZ1 := Lib.hid (HZ.out.grown (Grew.trans (Grew.drew (Grew.refl _)) gw))
        obtain ⟨r0, r1⟩ := (HR.out.grown G1).2 k hlt
        have HTH := Lib.hid HT1
        obtain ⟨⟨u0, u1, u2⟩, u3, u4⟩ := HT1
        have Z1 : wr.heap.size ≤ w1.heap.size := gw.size
        clear gw q0 q1 t0 t1 t2 t3 t4
        go_wp2_with fail
        refine hK.out _ _ ?_
        clear hK K hHeld
        try simp only [Act.put, List.setIfInBounds_toArray, List.set_cons_zero, List.set_cons_succ]
        refine wpAny_take (i := 7) (oi := ⟨some 27, _, _, _, _, _⟩) (v := ?_) rfl (by kernel_rfl) (by kernel_rfl) (by kernel_rfl) (fun _ _ _ h => h) (Or.inl ⟨by rfl, ?_⟩) ?_
        rotate_left
        · intro w; go_simp; (try with_reducible rfl)
        try simp only [Act.put, List.setIfInBounds_toArray, List.set_cons_zero, List.set_cons_succ]
        refine wpAny_done (by kernel_rfl) ?_ _
        go_wp2_with fail
        go_roundw
        case rel => first | exact ⟨k + 1, at' l k, ⟨by omega, by omega⟩, by go_num, by unfold Two; simp [go_sem, *], by obtain ⟨⟨_, _, _⟩, _, _⟩ := HZ1.out; unfold Two; simp [go_sem, *], Lib.hid (HB2.out.1 hc), (by (repeat' (first | (with_reducible exact Grew.refl _) | (with_reducible assumption) | (with_reducible refine Grew.alloc ?_ _ _) | (with_reducible refine Grew.drew ?_) | (with_reducible refine Grew.drewN ?_ _) | (with_reducible refine Grew.setCell ?_ ?_ _) | go_size)))⟩ | exact ⟨k + 1, m, ⟨by omega, by omega⟩, by go_num, HTH.out, HZ1.out, Lib.hid (HB2.out.2 hc), (by (repeat' (first | (with_reducible exact Grew.refl _) | (with_reducible assumption) | (with_reducible refine Grew.alloc ?_ _ _) | (with_reducible refine Grew.drew ?_) | (with_reducible refine Grew.drewN ?_ _) | (with_reducible refine Grew.setCell ?_ ?_ _) | go_size)))⟩
        case measure => simp [intOf]; omega
    · obtain rfl : k = l.length := by omega
      have HT := hT
      obtain ⟨⟨t0, t1, t2⟩, t3, t4⟩ := hT
      obtain ⟨⟨z0, z1, z2⟩, z3, z4⟩ := hZ
      have BK' := Lib.hid BK.out
      go_wp2_with fail
      refine bodyPost_ret (v := .agg #[.int .i64 m.1, .int .i64 m.2]) (by simp [results, Tryz.results168, go_sem, *]) rfl ⟨m, BK'.out.all, rfl, (by (repeat' (first | (with_reducible exact Grew.refl _) | (with_reducible assumption) | (with_reducible refine Grew.alloc ?_ _ _) | (with_reducible refine Grew.drew ?_) | (with_reducible refine Grew.drewN ?_ _) | (with_reducible refine Grew.setCell ?_ ?_ _) | go_size)))⟩

end Ct
end Go.Proofs.YtlookcbokhknfaaGreat
namespace Go.Proofs.YtlookcbokhknfaaGreat
open Go.RowKit Go.Shelf Hl
namespace Ct
theorem blk_three {W : World} {B : Nat} {x y z : Value} {t : TypeId} (h : Blk W B #[x, y, z] t) : W.cell? ⟨B, 0, none⟩ = some x ∧ W.cell? ⟨B, 1, none⟩ = some y ∧ W.cell? ⟨B, 2, none⟩ = some z := by simp [World.cell?, show W.heap[B]? = _ from h]
set_option maxRecDepth 100000 in
set_option maxHeartbeats 4000000 in
theorem eight1_c (h : Hf) (Be : Nat) (a b : Pt) (w : World) (hB : Blk w Be #[.int .i64 h.1, .int .i64 h.2.1, .int .i64 h.2.2] 123) (hh : EB h) (ha : Plc a) (hb : Plc b) : Calls Tryz.prog 169 (#[.agg #[.int .i64 a.1, .int .i64 a.2], .agg #[.int .i64 b.1, .int .i64 b.2]] ++ #[.pointer (some ⟨Be, 0, none⟩)]) w fun e w' => e = .returned (.int .i64 (ov h a - ov h b)) ∧ Grew w w' := by
  have BX : Hid (∀ x W, Plc x → Calls Tryz.prog 106 #[.agg #[.int .i64 h.1, .int .i64 h.2.1, .int .i64 h.2.2], .agg #[.int .i64 x.1, .int .i64 x.2]] W fun e w' => e = .returned (.int .i64 (ov h x)) ∧ (W.alloc (.cells #[.int .i64 h.1, .int .i64 h.2.1, .int .i64 h.2.2] 123)).alloc (.cells #[.int .i64 x.1, .int .i64 x.2] 27) = w') := Lib.hid (fun x W hx => beyond_c h x W hh hx)
  have bA := (ov_bd hh ha).2.2
  have bB := (ov_bd hh hb).2.2
  have W64 : IntKind.i64.wrap (ov h a - ov h b) = ov h a - ov h b := IntWalk.i64_in _ ⟨by omega, by omega⟩
  have HA := Lib.hid ha
  have HB := Lib.hid hb
  obtain ⟨e0, e1, e2⟩ := blk_three hB
  have lB := hB.lt
  have l1 : Be < w.heap.size + 1 := by omega
  have l2 : Be < w.heap.size + 1 + 1 := by omega
  have l3 : Be < w.heap.size + 1 + 1 + 1 := by omega
  have l4 : Be < w.heap.size + 1 + 1 + 1 + 1 := by omega
  have l5 : Be < w.heap.size + 1 + 1 + 1 + 1 + 1 := by omega
  clear ha hb hh hB bA bB
  simp only [List.append_toArray, List.cons_append, List.nil_append]
  go_enter Tryz.func169, Tryz.ntmps169
  go_wp2_with fail
  go_region_held3 (fun w' => (w'.cell? ⟨Be, 0, none⟩ = some (.int .i64 h.1) ∧ w'.cell? ⟨Be, 1, none⟩ = some (.int .i64 h.2.1) ∧ w'.cell? ⟨Be, 2, none⟩ = some (.int .i64 h.2.2)) ∧ (w'.cell? ⟨w.heap.size, 0, none⟩ = some (.int .i64 a.1) ∧ w'.cell? ⟨w.heap.size, 1, none⟩ = some (.int .i64 a.2)) ∧ w'.cell? ⟨w.heap.size + 1, 0, none⟩ = some (.int .i64 b.1) ∧ w'.cell? ⟨w.heap.size + 1, 1, none⟩ = some (.int .i64 b.2)) (simp [go_sem, *])
    (first | (go_at_call 106; refine (BX.out _ _ (by first | exact HA.out | exact HB.out)).mono ?_; rintro e w' ⟨rfl, rfl⟩))
  go_wp2_with fail
  go_ret
  exact ⟨by simp, (by (repeat' (first | (with_reducible exact Grew.refl _) | (with_reducible assumption) | (with_reducible refine Grew.alloc ?_ _ _) | (with_reducible refine Grew.drew ?_) | (with_reducible refine Grew.drewN ?_ _) | (with_reducible refine Grew.setCell ?_ ?_ _) | go_size)))⟩
end Ct
end Go.Proofs.YtlookcbokhknfaaGreat
