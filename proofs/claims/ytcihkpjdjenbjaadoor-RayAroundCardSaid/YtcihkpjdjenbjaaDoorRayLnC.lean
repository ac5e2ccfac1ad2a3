/-
  The landed package ray: rounded places, and the rays that are ranged over.
-/
import Derived.Test.YtcihkpjdjenbjaaDoorRayLnA
import Derived.Test.YtcihkpjdjenbjaaDoorRayCnt
import Derived.Test.YtcihkpjdjenbjaaDoorExactScale
import Derived.Test.YtcihkpjdjenbjaaDoorRayCat
namespace Go.Proofs.YtcihkpjdjenbjaaDoor
open Go.RowKit Go.Shelf Hl Ex
attribute [local go_sem] Oper.semAt_some
namespace Ry
set_option maxRecDepth 100000

theorem ownAt_new (B : Nat) (w : World) (p : List Pt) (cs : Array Value) (h : (cellsOf p).toArray = cs) (hB : B ≤ w.heap.size) (hl : p.length ≤ 4000) : OwnAt B (w.alloc (.cells cs 23)) w.heap.size p.length p := by
  refine ⟨hB, Nat.le_refl _, by unfold maxLen; omega, cs, World.alloc_heap_new w _, ?_, fun i hi => ?_⟩
  · rw [← h, List.size_toArray, cellsOf_len]
  · have := cellsOf_at p i hi
    subst h
    rw [List.getElem?_toArray, List.getElem?_toArray]
    exact this
theorem sc_in {c n d : Int} (hc : -1000 ≤ c ∧ c ≤ 1000) (h0 : 0 ≤ n) (h1 : n ≤ 100000) (hd : d = 998 ∨ d = 1001) : Sc c n d ∧ Sp (fl (c * n) d) ∧ Sp (ce (c * n) d) := by
  have p := prod_bd hc h0 h1
  have s1 := fl_spec (c * n) (b := d) (by omega)
  have s2 := ce_spec (c * n) (b := d) (by omega)
  unfold Sc Sp
  generalize fl (c * n) d = f at *
  generalize ce (c * n) d = g at *
  rcases hd with rfl | rfl <;> omega
def RndSays (r : Pt) (n d : Int) (w : World) (e : Ending) (w' : World) : Prop := ∃ g, e = .returned (.slice (some ⟨g, 0, none⟩) 4 4) ∧ OwnAt w.heap.size w' g 4 (bx r n d) ∧ Grew w w'
set_option maxHeartbeats 1000000 in
theorem rounded_c (r : Pt) (n d : Int) (w : World) (hr : (-1000 ≤ r.1 ∧ r.1 ≤ 1000) ∧ (-1000 ≤ r.2 ∧ r.2 ≤ 1000)) (h0 : 0 ≤ n) (h1 : n ≤ 100000) (hd : d = 998 ∨ d = 1001) : Calls Tryd.prog 35 #[.agg #[.int .i64 r.1, .int .i64 r.2], .int .i64 n, .int .i64 d] w (RndSays r n d w) := by
  obtain ⟨a1, a2, a3⟩ := sc_in hr.1 h0 h1 hd
  obtain ⟨b1, b2, b3⟩ := sc_in hr.2 h0 h1 hd
  have SX : Hid (∀ W, Calls Tryd.prog 53 #[.int .i64 r.1, .int .i64 n, .int .i64 d] W fun e w' => e = .returned (.tuple #[.int .i64 (fl (r.1 * n) d), .int .i64 (ce (r.1 * n) d), .int .i64 0]) ∧ Grew W w') := Lib.hid (fun W => scale_g _ _ _ W a1 a2 a3)
  have SY : Hid (∀ W, Calls Tryd.prog 53 #[.int .i64 r.2, .int .i64 n, .int .i64 d] W fun e w' => e = .returned (.tuple #[.int .i64 (fl (r.2 * n) d), .int .i64 (ce (r.2 * n) d), .int .i64 0]) ∧ Grew W w') := Lib.hid (fun W => scale_g _ _ _ W b1 b2 b3)
  have EB : Hid (bx r n d = [(fl (r.1 * n) d, fl (r.2 * n) d), (ce (r.1 * n) d, fl (r.2 * n) d), (fl (r.1 * n) d, ce (r.2 * n) d), (ce (r.1 * n) d, ce (r.2 * n) d)]) := Lib.hid rfl
  have kA := Lib.hid (Blk.new w #[.int .i64 r.1, .int .i64 r.2] 23)
  have G0 : Grew w (w.alloc (.cells #[.int .i64 r.1, .int .i64 r.2] 23)) := (Grew.refl w).alloc _ _
  generalize fl (r.1 * n) d = x at SX EB
  generalize ce (r.1 * n) d = X at SX EB
  generalize fl (r.2 * n) d = y at SY EB
  generalize ce (r.2 * n) d = Y at SY EB
  clear a1 a2 a3 b1 b2 b3 hr h0 h1 hd
  go_enter Tryd.func35, Tryd.ntmps35
  go_wp2_with fail
  refine (SX.out _).mono ?_
  rintro e w1 ⟨rfl, g1⟩
  have G1 := Grew.trans G0 g1
  obtain ⟨⟨c0, c1⟩, _, _⟩ := (kA.out.grown g1).two
  have lA := (kA.out.grown g1).lt
  clear g1 G0
  go_wp2_with fail
  refine (SY.out _).mono ?_
  rintro e w2 ⟨rfl, g2⟩
  have G2 := Grew.trans G1 g2
  clear g2 G1 c0 c1 lA
  go_wp2_with fail
  go_ret
  have h := ownAt_new w.heap.size w2 (bx r n d) _ rfl G2.size (by rw [EB.out]; exact of_decide_eq_true rfl)
  rw [EB.out] at h
  refine ⟨_, rfl, ?_, ?_⟩
  · rw [EB.out]
    exact h
  · exact (by (repeat' (first | (with_reducible exact Grew.refl _) | (with_reducible assumption) | (with_reducible refine Grew.alloc ?_ _ _) | (with_reducible refine Grew.drew ?_) | (with_reducible refine Grew.drewN ?_ _) | (with_reducible refine Grew.setCell ?_ ?_ _) | go_size)))

/-! ### The rays that are ranged over -/
/-- Some blocks lie as they lay. -/
def KeptL (L : List Nat) (W W' : World) : Prop := W.heap.size ≤ W'.heap.size ∧ ∀ k, k ∈ L → W'.heap[k]? = W.heap[k]?
theorem KeptL.refl (L : List Nat) (W : World) : KeptL L W W := ⟨Nat.le_refl _, fun _ _ => rfl⟩
theorem KeptL.trans {L : List Nat} {X Y Z : World} (h : KeptL L X Y) (k : KeptL L Y Z) : KeptL L X Z := ⟨Nat.le_trans h.1 k.1, fun i hi => (k.2 i hi).trans (h.2 i hi)⟩
theorem KeptL.cell {L : List Nat} {W W' : World} (h : KeptL L W W') {k o : Nat} (hk : k ∈ L) : W'.cell? ⟨k, o, none⟩ = W.cell? ⟨k, o, none⟩ := World.cell?_of_block (a := ⟨k, o, none⟩) (h.2 k hk)
theorem KeptL.grown {L : List Nat} {X Y Z : World} {row : Option Nat} (h : KeptL L X Y) (g : Y.grownBy Z row) (hL : ∀ k, k ∈ L → k < Y.heap.size) (hr : ∀ k, row = some k → k ∉ L) : KeptL L X Z :=
  ⟨Nat.le_trans h.1 g.size, fun k hk => (g.block k (hL k hk) (fun e => hr k e.symm hk)).trans (h.2 k hk)⟩
theorem KeptL.grew {L : List Nat} {X Y Z : World} (h : KeptL L X Y) (g : Grew Y Z) (hL : ∀ k, k ∈ L → k < Y.heap.size) : KeptL L X Z :=
  ⟨Nat.le_trans h.1 g.size, fun k hk => (g.block k (hL k hk)).trans (h.2 k hk)⟩
theorem grownBy_grew {X Y : World} (g : Grew X Y) : X.grownBy Y none := ⟨g.os, g.tape, g.output, g.size, fun k hk _ => g.block k hk⟩
theorem keptL_put (L : List Nat) (W : World) (l : Nat) (o' : Obj) (hl : ∀ k, k ∈ L → k < l) : KeptL L W (W.putObj l o') :=
  ⟨(grownBy_putObj' W l o').size, fun k hk => World.putObj_heap_other (by have := hl k hk; omega)⟩
theorem Tq.kept {L : List Nat} {W W' : World} (h : Tq W) (k : KeptL L W W') (hq : 0 ∈ L) : Tq W' :=
  ⟨Nat.lt_of_lt_of_le h.1 k.1, fun j hj => ⟨(k.cell hq).trans (h.2 j hj).1, (k.cell hq).trans (h.2 j hj).2⟩⟩
def encD (a k : Nat) : Array Value := #[.agg #[.int .i64 (dir (a + k)).1, .int .i64 (dir (a + k)).2]]
theorem rays_in (n : Nat) (a m : Int) (w : World) :
    CallsIn Fence.wide n Tryd.prog 36 #[.int .i64 a, .int .i64 m] w fun e w' => e = .returned (.func (.func 54) #[] #[.pointer (some ⟨w.heap.size + 1, 0, none⟩), .pointer (some ⟨w.heap.size, 0, none⟩)]) ∧ w' = (w.alloc (.cells #[.int .i64 a] 3)).alloc (.cells #[.int .i64 m] 3) := by
  refine callsIn_of_wp Tryd.func36 rfl trivial ?_ rfl
  simp only [Tryd.ntmps36, List.size_toArray, List.length_cons, List.length_nil, Nat.reduceAdd, Nat.reduceSub, Array.replicate_succ, Array.replicate_zero, List.push_toArray, List.append_toArray, List.nil_append, List.cons_append]
  gi_wp2
  go_ret
  exact ⟨rfl, rfl⟩
set_option maxHeartbeats 4000000 in
theorem rays1_in (n : Nat) (hn : 1 ≤ n) (l Bn Ba : Nat) (L : List Nat) (a m : Nat) (ham : a + m < 128) (J Jx : List Nat → World → Prop)
    (W : World) (hJ : AbidesFrom W.heap.size J)
    (hY : ∀ pre k W1, J pre W1 → pre.length < m + 1 → YieldAt Fence.wide (n - 1) Tryd.prog l (encD a k) W1 fun e W' =>
      (e = .returned (.bool true) ∧ J (pre ++ [k]) W' ∧ KeptL L W1 W') ∨ (e = .returned (.bool false) ∧ Jx (pre ++ [k]) W'))
    (hL : ∀ k, k ∈ L → k < W.heap.size) (hBn : Bn ∈ L) (hBa : Ba ∈ L) (hq : 0 ∈ L) (cn : W.cell? ⟨Bn, 0, none⟩ = some (.int .i64 m)) (ca : W.cell? ⟨Ba, 0, none⟩ = some (.int .i64 a)) (hT : Tq W) (h0 : J [] W) :
    CallsIn Fence.wide n Tryd.prog 54 #[.func (.yield l) #[] #[], .pointer (some ⟨Bn, 0, none⟩), .pointer (some ⟨Ba, 0, none⟩)] W fun e W' => (∃ v, e = .returned v) ∧
      ((∃ ys, ys = List.range (m + 1) ∧ J ys W') ∨ (∃ pre, (∃ k, k ≤ m + 1 ∧ pre = List.range k) ∧ Jx pre W')) := by
  have HY := Lib.hid hY
  have HJ := Lib.hid hJ
  have HL := Lib.hid hL
  have HT := Lib.hid hT
  have CN := Lib.hid cn
  have CA := Lib.hid ca
  have DC : Hid (∀ k, k ≤ m → ∀ W', Tq W' → CallsIn Fence.wide (n - 1) Tryd.prog 25 #[.int .i64 ((a : Int) + (k : Int))] W' fun e w' => e = .returned (.agg #[.int .i64 (dir (a + k)).1, .int .i64 (dir (a + k)).2]) ∧ Grew W' w') := Lib.hid (fun k hk W' t => callsIn_wide.2 (by
    have h := direction_c (a + k) W' t (by omega)
    rwa [Int.natCast_add] at h))
  have lBn := hL Bn hBn
  have lBa := hL Ba hBa
  have m0 : (0 : Int) ≤ (m : Int) := by omega
  have m1 : (m : Int) < 128 := by omega
  have a0 : (0 : Int) ≤ (a : Int) := by omega
  have a1 : (a : Int) < 128 := by omega
  clear hY hJ hT hL
  refine callsIn_of_wp Tryd.func54 rfl trivial ?_ rfl
  simp only [Tryd.ntmps54, List.size_toArray, List.length_cons, List.length_nil, Nat.reduceAdd, Nat.reduceSub, Array.replicate_succ, Array.replicate_zero, List.push_toArray, List.append_toArray, List.nil_append, List.cons_append]
  gi_wp2_with fail
  clear cn ca lBn lBa
  gi_loopw [7, 4] (fun i _ wr => ∃ k : Nat, k ≤ m + 1 ∧ i = .int .i64 k ∧ Hid (J (List.range k) wr ∧ KeptL L W wr)) (fun i _ _ => m + 1 - (intOf i).toNat)
  case atStart => exact ⟨0, Nat.zero_le _, rfl, Lib.hid ⟨h0, KeptL.refl _ _⟩⟩
  case round =>
    clear h0
    obtain ⟨k, hk, rfl, HK⟩ := hrel
    have k0 : (0 : Int) ≤ (k : Int) := by omega
    by_cases hlt : k < m + 1
    · have ca := (HK.out.2.cell (o := 0) hBa).trans CA.out
      have lBa : Ba < wr.heap.size := by have h1 := HL.out Ba hBa; have h2 := HK.out.2.1; omega
      have klt : (k : Int) < (m : Int) + 1 := by omega
      have D1 := Lib.hid (DC.out k (by omega) wr (HT.out.kept HK.out.2 hq))
      have ENC : Hid (encD a k = #[.agg #[.int .i64 (dir (a + k)).1, .int .i64 (dir (a + k)).2]]) := Lib.hid rfl
      have K1 : Hid (k ≤ m ∧ 1 ≤ n - 1 + 1) := Lib.hid ⟨by omega, by omega⟩
      generalize dir (a + k) = p at D1 ENC
      gi_wp2_with fail
      refine ⟨trivial, D1.out.mono ?_⟩
      rintro e w1 ⟨rfl, g1⟩
      have hJ1 : J (List.range k) w1 := HJ.out _ _ _ none HK.out.1 (grownBy_grew g1) (fun r e => by cases e)
      have KW : Hid (KeptL L W w1) := Lib.hid (HK.out.2.grew g1 (fun j hj => Nat.lt_of_lt_of_le (HL.out j hj) HK.out.2.1))
      obtain ⟨fn, tmps, assign, body, hy, hR⟩ := HY.out _ k _ hJ1 (by have := K1.out.1; rw [List.length_range]; omega)
      have hR' := hR.mono (R' := fun e W' => ∃ r : Bool, e = .returned (.bool r) ∧ Hid ((r = true → J (List.range (k + 1)) W' ∧ KeptL L W W') ∧ (r = false → Jx (List.range (k + 1)) W'))) (by
        rintro e W' (⟨rfl, h1, h2⟩ | ⟨rfl, h1⟩)
        · exact ⟨true, rfl, Lib.hid ⟨fun _ => ⟨by rw [List.range_succ]; exact h1, KW.out.trans h2⟩, fun h => by cases h⟩⟩
        · exact ⟨false, rfl, Lib.hid ⟨fun h => (by cases h), fun _ => (by rw [List.range_succ]; exact h1)⟩⟩)
      clear hR hJ1 HK KW D1 ca lBa g1
      rw [ENC.out] at hy
      clear ENC
      gi_wp2_with fail
      refine hR'.mono ?_
      rintro e W3 ⟨r, rfl, hjr⟩
      cases r
      · have F := Lib.hid (hjr.out.2 (by first | rfl | trivial))
        clear hjr
        gi_wp2_with fail
        refine bodyPost_ret (results_none rfl _ _ _) rfl ?_
        exact ⟨⟨_, rfl⟩, .inr ⟨_, ⟨k + 1, by omega, rfl⟩, F.out⟩⟩
      · have F := Lib.hid (hjr.out.1 (by first | rfl | trivial))
        clear hjr
        gi_wp2_with fail
        go_roundw
        case rel => exact ⟨k + 1, by omega, by go_num, F⟩
        case measure => simp [intOf]; omega
    · obtain rfl : k = m + 1 := by omega
      gi_wp2
      go_end0
      exact ⟨⟨_, rfl⟩, .inl ⟨_, rfl, HK.out.1⟩⟩
theorem rays_stops (n : Nat) (hn : 1 ≤ n) (Bn Ba : Nat) (L : List Nat) (a m : Nat) (ham : a + m < 128) (w : World) (hL : ∀ k, k ∈ L → k < w.heap.size) (hBn : Bn ∈ L) (hBa : Ba ∈ L) (hq : 0 ∈ L)
    (cn : w.cell? ⟨Bn, 0, none⟩ = some (.int .i64 m)) (ca : w.cell? ⟨Ba, 0, none⟩ = some (.int .i64 a)) (hT : Tq w) :
    SeqStopsK Fence.wide n Tryd.prog 54 #[.pointer (some ⟨Bn, 0, none⟩), .pointer (some ⟨Ba, 0, none⟩)] (encD a) (KeptL L) (fun ys => ys = List.range (m + 1)) (fun pre => ∃ k, k ≤ m + 1 ∧ pre = List.range k) (m + 1) w :=
  fun l J Jx W hW hJ _hJx hY h0 => rays1_in n hn l Bn Ba L a m ham J Jx W hJ hY (fun k hk => Nat.lt_of_lt_of_le (hL k hk) hW.size) hBn hBa hq ((Grew.cell hW (hL _ hBn)).trans cn) ((Grew.cell hW (hL _ hBa)).trans ca) (hT.grew hW) h0
end Ry
end Go.Proofs.YtcihkpjdjenbjaaDoor
