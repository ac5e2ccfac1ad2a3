/-
  The law DigestDigits of layer 5, under what package digest owes.
-/
import Derived.Test.YtgdcoofbjadgoaaDoorDigLawsA
import Derived.Laws.AppendOwn
namespace Go.Proofs.YtgdcoofbjadgoaaDoor
open Go.RowKit Wd
namespace Dg
set_option maxRecDepth 100000

theorem info_int : (Tryd.prog.info? 3).map (fun i => (i.zero, i.size, i.bytes)) = some (some (.int .i64 0), 1, 8) := by kernel_rfl
def intCells (l : List Int) : List Value := l.map (Value.int .i64)
theorem intCells_at {l : List Int} {j : Nat} (h : j < l.length) : (intCells l)[j]? = some (.int .i64 l[j]) := by
  unfold intCells
  rw [List.getElem?_map, List.getElem?_eq_getElem h]
  rfl
/-- A slice of integers of the call's own. -/
def Iw (B : Nat) (w : World) (v : Value) (l : List Int) : Prop := w.ownsRow B 3 1 v l.length (intCells l)
theorem Iw.empty (w : World) : Iw w.heap.size (w.alloc (.cells #[] 3)) (.slice (some ⟨w.heap.size, 0, none⟩) 0 0) [] :=
  ⟨rfl, Or.inr ⟨w.heap.size, 0, #[], rfl, Nat.le_refl _, heap_alloc_new w _, Nat.le_refl _, by unfold maxLen; omega, rfl, rfl⟩⟩
theorem Iw.at {B : Nat} {w : World} {v : Value} {l : List Int} (h : Iw B w v l) (h0 : 0 < l.length) : ∃ g c, v = .slice (some ⟨g, 0, none⟩) l.length c ∧ B ≤ g ∧ g < w.heap.size ∧ ∀ j (hj : j < l.length), w.cell? ⟨g, j, none⟩ = some (.int .i64 l[j]) ∧ w.frozen? ⟨g, j, none⟩ = false := by
  have hc := fun g => World.ownsRow.cells (g := g) h
  rcases h.2 with ⟨_, e⟩ | ⟨g, cap, cur, rfl, hB, hg, hn, _⟩
  · omega
  · refine ⟨g, cap, rfl, hB, (Array.getElem?_eq_some_iff.1 hg).1, fun j hj => ⟨?_, ?_⟩⟩
    · have := hc g rfl j _ (intCells_at hj)
      rwa [add_at] at this
    · unfold World.frozen?
      simp [hg]
/-- append(s, x...). -/
theorem wpl_ints {ops : Array Oper} {rest : List Oper} {o : Oper} {a : Act} {Q : Exit → Act → World → Prop} (w : World) (hgd : o.guard = none) (s x : Operand)
    (ho : o.op = .call { callee := .builtin .append, args := #[s, x], argTypes := #[23, 23] }) (B : Nat) (v : Value) (l : List Int) (b f c : Nat)
    (hs : a.eval s = v) (hown : Iw B w v []) (hx : a.eval x = .slice (some ⟨b, f, none⟩) l.length c) (hc : ∀ j (h : j < l.length), w.cell? ⟨b, f + j, none⟩ = some (.int .i64 l[j])) (hl : l.length ≤ 1000000) (hB : B ≤ w.heap.size)
    (h : ∀ v' w', Iw B w' v' l → w.grownBy w' v.ownBlock → wpList Tryd.prog ops Q rest (a.put o.dst v') w') : wpList Tryd.prog ops Q (o :: rest) a w := by
  obtain ⟨i0, hi, hz0, hz1, hz2⟩ := info_of info_int
  refine wpList_append_own w hgd s x 23 ho B 3 i0 (.int .i64 0) 1 8 Tryd.underlying23 hi hz0 hz1 hz2 rfl (by decide) v 0 [] hs hown ⟨b, f, none⟩ l.length c (intCells l) hx (by unfold intCells; simp) ?_ ?_ (by unfold maxLen; omega) (by omega) hB ?_
  · intro j u hj
    have hj' : j < l.length := by
      have := (List.getElem?_eq_some_iff.1 hj).1
      simpa [intCells] using this
    rw [intCells_at hj'] at hj
    rw [show (⟨b, f, none⟩ : Addr).add j = ⟨b, f + j, none⟩ from ?_, hc j hj']
    · exact hj
    · unfold Addr.add
      split
      · rename_i e; subst e; rfl
      · rfl
  · intro u hu
    obtain ⟨_, _, rfl⟩ := List.mem_map.1 hu
    rfl
  · intro v' w' h1 h2 _
    refine h v' w' ?_ h2
    unfold Iw
    rw [List.nil_append, Nat.zero_add] at h1
    exact h1
theorem is_set (W : World) (l : List Int) (k : Nat) (hk : k < l.length) (N : Int) (g c : Nat) (h : ∀ j (hj : j < l.length), W.cell? ⟨g, j, none⟩ = some (.int .i64 l[j])) (hg : g < W.heap.size) (hN : -9223372036854775808 ≤ N ∧ N ≤ 9223372036854775807) (hl : ∀ i (h : i < l.length), -9223372036854775808 ≤ l[i] ∧ l[i] ≤ 9223372036854775807) : Is (W.setCell ⟨g, k, none⟩ (.int .i64 N)) (.slice (some ⟨g, 0, none⟩) l.length c) (l.set k N) := by
  refine ⟨⟨some ⟨g, 0, none⟩, c, by rw [List.length_set], Or.inr ⟨g, 0, rfl, by simpa [World.setCell] using hg, fun j hj => ?_⟩⟩, fun i hi => ?_⟩
  · rw [List.length_set] at hj
    rw [Nat.zero_add]
    by_cases e : k = j
    · subst e
      refine (World.cell?_setCell_same (u := .int .i64 l[k]) (h := h k hk) ..).trans ?_
      rw [List.getElem_set_self]
    · refine (World.cell?_setCell_other (h := ?_) ..).trans ?_
      · intro h
        injection h with _ h2
        exact e h2
      · rw [h j hj, List.getElem_set_ne e]
  · rw [List.length_set] at hi
    rw [List.getElem_set]
    split
    · exact hN
    · exact hl i hi
theorem digits_ne (d : BitVec 64) (l : List Int) (k : Nat) (hk : k < l.length) (n N : Int) (hn : n = l[k]) (h0 : 0 ≤ n) (h1 : 0 ≤ N) (e : n.toNat / 10 = N.toNat / 10) (ne : n ≠ N) : (dv (nx d l) == dv (nx d (l.set k N))) = false := by
  rw [dv_eq, decide_eq_false]
  intro h
  have s1 : l = l.take k ++ n :: l.drop (k + 1) := by rw [hn, List.getElem_cons_drop, List.take_append_drop]
  have s2 : l.set k N = l.take k ++ N :: l.drop (k + 1) := by rw [List.set_eq_take_append_cons_drop, if_pos hk]
  rw [s2] at h
  have h2 : nx d (l.take k ++ n :: l.drop (k + 1)) = nx d (l.take k ++ N :: l.drop (k + 1)) := by rw [← s1]; exact h
  exact ne ((nx_digit d _ _ n N h0 h1 e).1 h2)
set_option maxHeartbeats 8000000 in
theorem digits_true {T : World → Prop} (K : Code T) (d : BitVec 64) (l : List Int) (p : Nat) (y : UInt8) (v : Value) (w : World) (hT : T w) (hp : p ≤ 65535) (hs : Is w v l) (hl : l.length ≤ 9223372036854775807) : Calls Tryd.prog 7 #[.int .u64 (dv d), v, .int .u16 (p : Int), .int .u8 (y.toNat : Int)] w fun e w' => e = .returned (.bool true) ∧ Grew w w' := by
  have HD := Lib.hid (head_true K w hT)
  obtain ⟨a, c, rfl⟩ := hs.shape
  have HS := Lib.hid hs
  have KK := Lib.hid (fun W (g : Grew w W) => K.keep _ _ g hT)
  have KC := Lib.hid K
  clear hs K hT
  by_cases h1 : l.length = 0
  · clear KK KC
    have h2 : ((l.length : Int) == 0) = true := by rw [h1]; rfl
    go_enter Tryd.func7, Tryd.ntmps7
    go_wp2_with fail
    refine (HD.out).mono ?_
    rintro e w1 ⟨rfl, g1'⟩
    have g1 : Grew w w1 := Grew.trans (Grew.refl _) g1'
    clear g1'
    go_wp2_with fail
    go_ret
    exact ⟨by simp, g1⟩
  · by_cases h2 : l.length ≤ 100
    · have h3 : ((l.length : Int) == 0) = false := by rw [beq_eq_false_iff_ne]; omega
      have h4 : (l.length : Int) ≠ 0 := by omega
      obtain ⟨b, o, rfl, hb, _⟩ := HS.out.at (show 0 < l.length by omega)
      have NX : Hid (∀ m v W, Grew w W → m.length = l.length → Is W v m → Calls Tryd.prog 12 #[.int .u64 (dv d), v] W fun e w' => e = .returned (.int .u64 (dv (nx d m))) ∧ Grew W w') := Lib.hid fun m v W g h hi => KC.out.next d m _ W (KK.out W g) hi (by omega)
      have SX : Hid (∀ m v W, Grew w W → m.length = l.length → Is W v m → Calls Tryd.prog 14 #[v] W fun e w' => e = .returned (.int .u64 (dv (nx f0 m))) ∧ Grew W w') := Lib.hid fun m v W g h hi => KC.out.sum m _ W (KK.out W g) hi (by omega)
      obtain ⟨k, hk⟩ : ∃ k : Nat, k = p % l.length := ⟨_, rfl⟩
      have hk0 : k < l.length := by rw [hk]; exact Nat.mod_lt _ (by omega)
      have hk1 : (p : Int) % (l.length : Int) = (k : Int) := by rw [hk]; omega
      have i0 : (0 : Int) ≤ (k : Int) := by omega
      have i1 : (k : Int) < (l.length : Int) := by omega
      clear KK KC hk
      go_enter Tryd.func7, Tryd.ntmps7
      go_wp2_with fail
      refine (HD.out).mono ?_
      rintro e w1 ⟨rfl, g1'⟩
      have g1 : Grew w w1 := Grew.trans (Grew.refl _) g1'
      clear g1'
      have l0 : 0 < l.length := by omega
      have B1 : Hid (b < w1.heap.size) := Lib.hid (Nat.lt_of_lt_of_le hb g1.size)
      have CL : Hid (∀ j (h : j < l.length), w1.cell? ⟨b, o + j, none⟩ = some (.int .i64 l[j])) := Lib.hid (fun j h => by obtain ⟨b', o', e, _, q⟩ := (HS.out.grew g1).at h; injection e with e; injection e with e1 e2 _; subst e1; subst e2; exact q)
      obtain ⟨n, hn⟩ : ∃ n, n = l[k] := ⟨_, rfl⟩
      have NB : Hid (-9223372036854775808 ≤ n ∧ n ≤ 9223372036854775807) := Lib.hid (by rw [hn]; exact HS.out.2 k hk0)
      have HN := Lib.hid hn
      clear hb
      clear hn
      have y0 : (0 : Int) ≤ (y.toNat : Int) := by omega
      have y1 : (y.toNat : Int) ≤ 255 := by have := y.toNat_lt; omega
      by_cases n0 : n < 0
      · go_wp2_with (at_builtin; go_must (refine wpl_ints _ rfl _ _ rfl w1.heap.size _ l b o c rfl (Iw.empty w1) rfl (fun j hj => by rw [World.cell?_alloc_lt (h := B1.out) ..]; exact CL.out j hj) (by omega) (by simp) ?_; intro v2 w2 own2 gr2; have G2 := Lib.hid (Grew.grown (g1.alloc _ _) gr2 (fun k hk => Nat.le_trans g1.size (World.ownsRow.lt (Iw.empty w1) k hk).1)); obtain ⟨g, c2, rfl, gB, glt, gc⟩ := own2.at l0; obtain ⟨c0, z0⟩ := gc k hk0; rw [← HN.out] at c0; have GC := Lib.hid gc; have IS2 := Lib.hid (own2); clear own2 gr2 gc))
        go_ret
        exact ⟨rfl, G2.out⟩
      by_cases n1 : 1000000000000 < n
      · go_wp2_with (at_builtin; go_must (refine wpl_ints _ rfl _ _ rfl w1.heap.size _ l b o c rfl (Iw.empty w1) rfl (fun j hj => by rw [World.cell?_alloc_lt (h := B1.out) ..]; exact CL.out j hj) (by omega) (by simp) ?_; intro v2 w2 own2 gr2; have G2 := Lib.hid (Grew.grown (g1.alloc _ _) gr2 (fun k hk => Nat.le_trans g1.size (World.ownsRow.lt (Iw.empty w1) k hk).1)); obtain ⟨g, c2, rfl, gB, glt, gc⟩ := own2.at l0; obtain ⟨c0, z0⟩ := gc k hk0; rw [← HN.out] at c0; have GC := Lib.hid gc; have IS2 := Lib.hid (own2); clear own2 gr2 gc))
        go_ret
        exact ⟨rfl, G2.out⟩
      have n2 : 0 ≤ n := by omega
      have n3 : n ≤ 1000000000000 := by omega
      obtain ⟨N, hN⟩ : ∃ N, n - n % 10 + (n % 10 + 1 + (y.toNat : Int) % 9) % 10 = N := ⟨_, rfl⟩
      have N1 : 0 ≤ N ∧ N ≤ 9223372036854775807 ∧ N.toNat / 10 = n.toNat / 10 ∧ N ≠ n := by omega
      obtain ⟨m, hm⟩ : ∃ m, m = l.set k N := ⟨_, rfl⟩
      have FN : Hid (∀ d, (dv (nx d l) == dv (nx d m)) = false) := Lib.hid (fun d => by rw [hm]; exact digits_ne d l k hk0 n N HN.out n2 N1.1 N1.2.2.1.symm N1.2.2.2.symm)
      have F1 := FN.out d
      have F2 := FN.out f0
      have F3 : (dv (nx d l) != dv (nx d m)) = true := by rw [bne, F1]; rfl
      have F4 : (dv (nx f0 l) != dv (nx f0 m)) = true := by rw [bne, F2]; rfl
      have IM : Hid (∀ (W : World) g c, (∀ j (hj : j < l.length), W.cell? ⟨g, j, none⟩ = some (.int .i64 l[j])) → g < W.heap.size → Is (W.setCell ⟨g, k, none⟩ (.int .i64 N)) (.slice (some ⟨g, 0, none⟩) l.length c) m) := Lib.hid (fun W g c h hg => by rw [hm]; exact is_set W l k hk0 N g c h hg ⟨by omega, N1.2.1⟩ HS.out.2)
      have MLn : Hid (m.length = l.length) := Lib.hid (by rw [hm, List.length_set])
      clear hm N1
      go_wp2_with (at_builtin; go_must (refine wpl_ints _ rfl _ _ rfl w1.heap.size _ l b o c rfl (Iw.empty w1) rfl (fun j hj => by rw [World.cell?_alloc_lt (h := B1.out) ..]; exact CL.out j hj) (by omega) (by simp) ?_; intro v2 w2 own2 gr2; have G2 := Lib.hid (Grew.grown (g1.alloc _ _) gr2 (fun k hk => Nat.le_trans g1.size (World.ownsRow.lt (Iw.empty w1) k hk).1)); obtain ⟨g, c2, rfl, gB, glt, gc⟩ := own2.at l0; obtain ⟨c0, z0⟩ := gc k hk0; rw [← HN.out] at c0; have GC := Lib.hid gc; have IS2 := Lib.hid (own2); clear own2 gr2 gc))
      have GV : Grew w (w2.setCell ⟨g, k, none⟩ (.int .i64 N)) := Below.setCell G2.out (Nat.le_trans g1.size gB) _
      have IV := Lib.hid (IM.out w2 g c2 (fun j hj => (GC.out j hj).1) glt)
      obtain ⟨V, hV⟩ : ∃ V, V = w2.setCell ⟨g, k, none⟩ (.int .i64 N) := ⟨_, rfl⟩
      rw [← hV] at GV IV ⊢
      clear hV c0 z0 GC IS2 gB
      refine (NX.out l _ _ GV rfl (HS.out.grew GV)).mono ?_
      rintro e w12 ⟨rfl, g12'⟩
      have g12 : Grew w w12 := Grew.trans GV g12'
      have r12 : Grew V w12 := g12'
      clear g12'
      go_wp2_with fail
      refine (NX.out m _ _ g12 MLn.out (IV.out.grew r12)).mono ?_
      rintro e w13 ⟨rfl, g13'⟩
      have g13 : Grew w w13 := Grew.trans g12 g13'
      have r13 : Grew V w13 := Grew.trans r12 g13'
      clear g13'
      go_wp2_with fail
      refine (SX.out l _ _ g13 rfl (HS.out.grew g13)).mono ?_
      rintro e w14 ⟨rfl, g14'⟩
      have g14 : Grew w w14 := Grew.trans g13 g14'
      have r14 : Grew V w14 := Grew.trans r13 g14'
      clear g14'
      go_wp2_with fail
      refine (SX.out m _ _ g14 MLn.out (IV.out.grew r14)).mono ?_
      rintro e w15 ⟨rfl, g15'⟩
      have g15 : Grew w w15 := Grew.trans g14 g15'
      have r15 : Grew V w15 := Grew.trans r14 g15'
      clear g15'
      go_wp2_with fail
      go_ret
      exact ⟨by simp, g15⟩
    · have h3 : ((l.length : Int) == 0) = false := by rw [beq_eq_false_iff_ne]; omega
      have h4 : (100 : Int) < (l.length : Int) := by omega
      clear KK KC
      go_enter Tryd.func7, Tryd.ntmps7
      go_wp2_with fail
      refine (HD.out).mono ?_
      rintro e w1 ⟨rfl, g1'⟩
      have g1 : Grew w w1 := Grew.trans (Grew.refl _) g1'
      clear g1'
      go_wp2_with fail
      go_ret
      exact ⟨by simp, g1⟩
end Dg
end Go.Proofs.YtgdcoofbjadgoaaDoor
