/-
  The landed package codec: the reader.
-/
import Derived.Test.YtljmdpjjieoedaaDoorCodA
import Derived.WalkSmall
namespace Go.Proofs.YtljmdpjjieoedaaDoor
open Go.RowKit Wd
namespace Co
set_option maxRecDepth 100000

/-- A panic with ErrForm. -/
def bang : Ending := .panicked [{ v := .iface 25 (.int .i64 7), recovered := false }]
set_option maxHeartbeats 4000000 in
theorem c_must (w : World) : Calls Tryd.prog 38 #[.bool true] w fun e w' => e = .returned (.tuple #[]) ∧ w' = w := by
  go_enter Tryd.func38, Tryd.ntmps38
  go_wp2_with fail
  go_end0
  exact ⟨rfl, rfl⟩
set_option maxHeartbeats 4000000 in
theorem c_must_no (w : World) : Calls Tryd.prog 38 #[.bool false] w fun e w' => e = bang ∧ w' = w := by
  go_enter Tryd.func38, Tryd.ntmps38
  go_wp2_with fail
  exact ⟨rfl, rfl, rfl⟩
/-- The reader at block g. -/
structure Rs (g : Nat) (v : Value) (p : Nat) (w : World) : Prop where
  lt : g < w.heap.size
  bytes : w.cell? ⟨g, 0, none⟩ = some v
  pos : w.cell? ⟨g, 1, none⟩ = some (.int .i64 p)
  free : w.frozen? ⟨g, 1, none⟩ = false
/-- Only the block g has turned. -/
def Rk (g : Nat) (w w' : World) : Prop := w.grownBy w' (some g)
theorem Rk.refl (g : Nat) (w : World) : Rk g w w := World.grownBy.refl _ _
theorem Rk.trans {g : Nat} {a b c : World} (h : Rk g a b) (k : Rk g b c) : Rk g a c :=
  ⟨k.os.trans h.os, k.tape.trans h.tape, k.output.trans h.output, Nat.le_trans h.size k.size, fun i hi hn => (k.block i (Nat.lt_of_lt_of_le hi h.size) hn).trans (h.block i hi hn)⟩
theorem Rk.drewN (g : Nat) (w : World) (n : Nat) : Rk g w (w.drewN n) := ⟨rfl, rfl, rfl, Nat.le_refl _, fun _ _ _ => rfl⟩
theorem Rk.cell {g : Nat} {w w' : World} (h : Rk g w w') {b o : Nat} (hb : b < w.heap.size) (hne : b ≠ g) : w'.cell? ⟨b, o, none⟩ = w.cell? ⟨b, o, none⟩ :=
  World.cell?_of_block (h.block b hb (fun e => hne (Option.some.inj e)))
theorem Rk.set (g : Nat) (w : World) (u : Value) : Rk g w (w.setCell ⟨g, 1, none⟩ u) :=
  ⟨rfl, rfl, rfl, by simp, fun k _ hne => Below.heap_setCell _ _ _ _ (fun e => hne (by rw [e]))⟩
theorem Rs.drewN {g : Nat} {v : Value} {p : Nat} {w : World} (h : Rs g v p w) (n : Nat) : Rs g v p (w.drewN n) := ⟨h.lt, h.bytes, h.pos, h.free⟩
theorem Rs.set {g : Nat} {v : Value} {p : Nat} {w : World} (h : Rs g v p w) : Rs g v (p + 1) (w.setCell ⟨g, 1, none⟩ (.int .i64 ((p : Int) + 1))) := by
  obtain ⟨h1, h2, h3, h4⟩ := h
  refine ⟨by simpa using h1, ?_, ?_, ?_⟩
  · simp [go_sem, h2]
  · simp [go_sem, h3]
  · simpa [go_sem] using h4
/-- The bytes of the reader, in another block. -/
def Bx (g : Nat) (w : World) (v : Value) (bs : List UInt8) : Prop := Bs w v bs ∧ (0 < bs.length → ∀ b o n c, v = .slice (some ⟨b, o, none⟩) n c → b < g)
theorem Bx.kept {g : Nat} {w w' : World} {v : Value} {bs : List UInt8} (h : Bx g w v bs) (k : Rk g w w') : Bx g w' v bs :=
  ⟨Sv.kept h.1 k (fun h0 b o n c e eb => by rw [bc_len] at h0; exact Nat.ne_of_lt (h.2 h0 b o n c e) (Option.some.inj eb)), h.2⟩
theorem Bx.below {g : Nat} {w w' : World} {v : Value} {bs : List UInt8} (h : Bx g w v bs) (k : Below g w w') : Bx g w' v bs := by
  refine ⟨?_, h.2⟩
  obtain ⟨⟨a, c, rfl, h1, h2⟩, h3⟩ := h
  refine ⟨a, c, rfl, h1, ?_⟩
  rcases h2 with h2 | ⟨b, o, rfl, hb, hc⟩
  · exact Or.inl h2
  · by_cases h0 : (Lib.byteCells bs).length = 0
    · exact Or.inl h0
    · have hbg := h3 (by rw [bc_len] at h0; omega) b o _ _ rfl
      exact Or.inr ⟨b, o, rfl, Nat.lt_of_lt_of_le hb k.size, fun i u hu => by rw [← hc i u hu]; exact World.cell?_of_block (k.block b hbg)⟩
set_option maxHeartbeats 4000000 in
theorem c_next (g : Nat) (v : Value) (p : Nat) (bs : List UInt8) (w : World) (hr : Rs g v p w) (hx : Bx g w v bs) (hp : p < bs.length) (hl : bs.length ≤ 1000000) : Calls Tryd.prog 40 #[.pointer (some ⟨g, 0, none⟩)] w fun e w' => e = .returned (.int .u8 (bs[p].toNat : Int)) ∧ Rs g v (p + 1) w' ∧ Rk g w w' := by
  obtain ⟨a, c, rfl, hc⟩ := hx.1.shape
  obtain ⟨b, o, rfl, hb, hcell⟩ := hx.1.row (by omega)
  have hne := Nat.ne_of_lt (hx.2 (by omega) b o _ _ rfl)
  have q0 := hcell p hp
  have RS := Lib.hid hr
  obtain ⟨r0, r1, r2, r3⟩ := hr
  have MT := Lib.hid (fun W => c_must W)
  clear hx hcell
  have p0 : (0 : Int) ≤ (p : Int) := by omega
  have p1 : (p : Int) < (bs.length : Int) := by omega
  go_enter Tryd.func40, Tryd.ntmps40
  go_wp2_with fail
  go_region_held3 (fun W => W.cell? ⟨g, 0, none⟩ = some (.slice (some ⟨b, o, none⟩) bs.length c) ∧ W.cell? ⟨g, 1, none⟩ = some (.int .i64 p)) (simp [go_sem, *])
    (first | (go_at_call 38; refine (MT.out _).mono ?_; rintro e w1 ⟨rfl, rfl⟩))
  go_wp2_with fail
  go_quiet (fail)
  have b0 : (bs.length : Int) ≤ 1000000 := by omega
  go_wp2_with fail
  go_ret
  exact ⟨rfl, (RS.out.drewN (1 + nq)).set, (Rk.drewN g w (1 + nq)).trans (Rk.set _ _ _)⟩
set_option maxHeartbeats 4000000 in
theorem c_next_no (g : Nat) (v : Value) (bs : List UInt8) (w : World) (hr : Rs g v bs.length w) (hx : Bx g w v bs) (_hl : bs.length ≤ 1000000) : Calls Tryd.prog 40 #[.pointer (some ⟨g, 0, none⟩)] w fun e w' => e = bang ∧ Rk g w w' := by
  obtain ⟨a, c, rfl, hc⟩ := hx.1.shape
  obtain ⟨r0, r1, r2, r3⟩ := hr
  have MT := Lib.hid (fun W => c_must_no W)
  clear hx
  go_enter Tryd.func40, Tryd.ntmps40
  go_wp2_with fail
  refine wp_region_held_drew (S := (fun W => W.cell? ⟨g, 0, none⟩ = some (.slice a bs.length c) ∧ W.cell? ⟨g, 1, none⟩ = some (.int .i64 bs.length))) (by kernel_rfl) (by simp [go_sem, *]) (fun hHeld => ?_)
  refine wpAnyH_take (i := 0) (oi := ⟨some 4, _, _, _, _, _⟩) (v := ?_) rfl (by kernel_rfl) (by kernel_rfl) (by kernel_rfl) (fun _ _ _ h => h) (Or.inl ⟨by rfl, ?_⟩) (by assumption) ?_
  rotate_left
  · intro w hSw; (try dsimp only at hSw); go_simp; (try with_reducible rfl)
  try simp only [Act.put, List.setIfInBounds_toArray, List.set_cons_zero, List.set_cons_succ]
  refine wpAnyH_take (i := 1) (oi := ⟨some 5, _, _, _, _, _⟩) (v := ?_) rfl (by kernel_rfl) (by kernel_rfl) (by kernel_rfl) (fun _ _ _ h => h) (Or.inl ⟨by rfl, ?_⟩) (by assumption) ?_
  rotate_left
  · intro w hSw; (try dsimp only at hSw); go_simp; (try with_reducible rfl)
  try simp only [Act.put, List.setIfInBounds_toArray, List.set_cons_zero, List.set_cons_succ]
  refine wpAnyH_take (i := 2) (oi := ⟨some 6, _, _, _, _, _⟩) (v := ?_) rfl (by kernel_rfl) (by kernel_rfl) (by kernel_rfl) (fun _ _ _ h => h) (Or.inl ⟨by rfl, ?_⟩) (by assumption) ?_
  rotate_left
  · intro w hSw; (try dsimp only at hSw); go_simp; (try with_reducible rfl)
  try simp only [Act.put, List.setIfInBounds_toArray, List.set_cons_zero, List.set_cons_succ]
  refine wpAnyH_take (i := 3) (oi := ⟨some 7, _, _, _, _, _⟩) (v := ?_) rfl (by kernel_rfl) (by kernel_rfl) (by kernel_rfl) (fun _ _ _ h => h) (Or.inl ⟨by rfl, ?_⟩) (by assumption) ?_
  rotate_left
  · intro w hSw; (try dsimp only at hSw); go_simp; (try with_reducible rfl)
  try simp only [Act.put, List.setIfInBounds_toArray, List.set_cons_zero, List.set_cons_succ]
  refine wpAnyH_take (i := 4) (oi := ⟨some 8, _, _, _, _, _⟩) (v := ?_) rfl (by kernel_rfl) (by kernel_rfl) (by kernel_rfl) (fun _ _ _ h => h) (Or.inl ⟨by rfl, ?_⟩) (by assumption) ?_
  rotate_left
  · intro w hSw; (try dsimp only at hSw); go_simp; (try with_reducible rfl)
  try simp only [Act.put, List.setIfInBounds_toArray, List.set_cons_zero, List.set_cons_succ]
  refine wpAnyH_take (i := 5) (oi := ⟨some 9, _, _, _, _, _⟩) (v := ?_) rfl (by kernel_rfl) (by kernel_rfl) (by kernel_rfl) (fun _ _ _ h => h) (Or.inl ⟨by rfl, ?_⟩) (by assumption) ?_
  rotate_left
  · intro w hSw; (try dsimp only at hSw); go_simp; (try with_reducible rfl)
  try simp only [Act.put, List.setIfInBounds_toArray, List.set_cons_zero, List.set_cons_succ]
  refine wpAnyH_take (i := 6) (oi := ⟨some 10, _, _, _, _, _⟩) (v := ?_) rfl (by kernel_rfl) (by kernel_rfl) (by kernel_rfl) (fun _ _ _ h => h) (Or.inl ⟨by rfl, ?_⟩) (by assumption) ?_
  rotate_left
  · intro w hSw; (try dsimp only at hSw); go_simp; (try with_reducible rfl)
  try simp only [Act.put, List.setIfInBounds_toArray, List.set_cons_zero, List.set_cons_succ]
  refine wpAnyH_take (i := 7) (oi := ⟨some 11, _, _, _, _, _⟩) (v := ?_) rfl (by kernel_rfl) (by kernel_rfl) (by kernel_rfl) (fun _ _ _ h => h) (Or.inl ⟨by rfl, ?_⟩) (by assumption) ?_
  rotate_left
  · intro w hSw; (try dsimp only at hSw); go_simp; (try with_reducible rfl)
  try simp only [Act.put, List.setIfInBounds_toArray, List.set_cons_zero, List.set_cons_succ]
  refine wpAnyH_take (i := 8) (oi := ⟨some 12, _, _, _, _, _⟩) (v := ?_) rfl (by kernel_rfl) (by kernel_rfl) (by kernel_rfl) (fun _ _ _ h => h) (Or.inl ⟨by rfl, ?_⟩) (by assumption) ?_
  rotate_left
  · intro w hSw; (try dsimp only at hSw); go_simp; (try with_reducible rfl)
  try simp only [Act.put, List.setIfInBounds_toArray, List.set_cons_zero, List.set_cons_succ]
  refine wpAnyH_take (i := 9) (oi := ⟨some 13, _, _, _, _, _⟩) (v := ?_) rfl (by kernel_rfl) (by kernel_rfl) (by kernel_rfl) (fun _ _ _ h => h) (Or.inl ⟨by rfl, ?_⟩) (by assumption) ?_
  rotate_left
  · intro w hSw; (try dsimp only at hSw); go_simp; (try with_reducible rfl)
  try simp only [Act.put, List.setIfInBounds_toArray, List.set_cons_zero, List.set_cons_succ]
  refine wpAnyH_ready (rs := [10]) (by kernel_rfl) (by simp) ?_
  refine AllReadyH.cons (o := ⟨(some 14), _, _, _, _, _⟩) rfl (fun K hK => ?_) AllReadyH.nil
  go_simp
  refine (MT.out _).mono ?_
  rintro e w1 ⟨he, rfl⟩
  unfold bang at he
  subst he
  go_wp2_with fail
  exact ⟨rfl, rfl, Rk.drewN g w 1⟩
/-! ### Numbers -/
theorem shl_eq {p j : Nat} (_hp : p < 128) : (p : Int) * 2 ^ min (7 * (j : Int)).toNat 64 % 18446744073709551616 = ((128 ^ j * p % 18446744073709551616 : Nat) : Int) := by
  rw [show (7 * (j : Int)).toNat = 7 * j from by omega]
  by_cases h : 7 * j ≤ 64
  · rw [Nat.min_eq_left h, pow_seven, Int.natCast_emod, Int.natCast_mul, Int.natCast_pow, Int.mul_comm]
    rfl
  · rw [Nat.min_eq_right (by omega), pow_seven]
    obtain ⟨k, hk⟩ : ∃ k, 7 * j = 64 + k := ⟨7 * j - 64, by omega⟩
    rw [hk, Nat.pow_add, Nat.mul_assoc, show (18446744073709551616 : Nat) = 2 ^ 64 from rfl, Nat.mul_mod_right]
    omega
theorem shr_eq {x j : Nat} (hx : x < 18446744073709551616) : (x : Int) / 2 ^ min (7 * (j : Int)).toNat 64 = ((x / 128 ^ j : Nat) : Int) := by
  rw [show (7 * (j : Int)).toNat = 7 * j from by omega]
  by_cases h : 7 * j ≤ 64
  · rw [Nat.min_eq_left h, pow_seven, Int.natCast_ediv, Int.natCast_pow]
    rfl
  · rw [Nat.min_eq_right (by omega), pow_seven, Nat.div_eq_of_lt (Nat.lt_of_lt_of_le hx (Nat.pow_le_pow_right (n := 2) (i := 64) (by decide) (by omega)))]
    omega
/-- The test of the shifted part. -/
theorem fit_iff {p j : Nat} (hp : p < 128) : (128 ^ j * p % 18446744073709551616) / 128 ^ j = p ↔ 128 ^ j * p < 18446744073709551616 := by
  constructor
  · intro h
    by_cases h0 : p = 0
    · subst h0; simp
    · have h1 : 128 ^ j * p ≤ 128 ^ j * p % 18446744073709551616 := by
        conv => lhs; rw [← h]
        exact Nat.mul_div_le _ _
      have h2 := Nat.mod_lt (128 ^ j * p) (show 0 < 18446744073709551616 by decide)
      omega
  · intro h
    rw [Nat.mod_eq_of_lt h, Nat.mul_div_cancel_left _ (Nat.pow_pos (by decide))]
theorem drop_at {bs : List UInt8} {p j : Nat} (h : p + j < bs.length) : bs.drop p = (bs.drop p).take j ++ bs[p + j] :: bs.drop (p + j + 1) := by
  conv => lhs; rw [← List.take_append_drop j (bs.drop p)]
  rw [List.drop_drop, List.drop_eq_getElem_cons h]
theorem take_at {bs : List UInt8} {p j : Nat} (h : p + j < bs.length) : (bs.drop p).take (j + 1) = (bs.drop p).take j ++ [bs[p + j]] := by
  rw [List.take_succ_eq_append_getElem (by rw [List.length_drop]; omega), List.getElem_drop]
theorem take_len {bs : List UInt8} {p j : Nat} (h : p + j ≤ bs.length) : ((bs.drop p).take j).length = j := by rw [List.length_take, List.length_drop]; omega
/-- What number answers. -/
def NumSays (g : Nat) (v : Value) (p : Nat) (bs : List UInt8) (w : World) (e : Ending) (w' : World) : Prop :=
  Rk g w w' ∧ ((∃ u r, u < 18446744073709551616 ∧ bs.drop p = vb u ++ r ∧ e = .returned (.int .u64 u) ∧ Rs g v (p + (vb u).length) w') ∨ (NoV (bs.drop p) ∧ e = bang))
theorem NumSays.yes {g : Nat} {v : Value} {p : Nat} {bs : List UInt8} {w w' : World} {e : Ending} {j A : Nat} (h1 : A < 18446744073709551616) (h2 : bs.drop p = vb A ++ bs.drop (p + j + 1) ∧ (vb A).length = j + 1) (h3 : e = .returned (.int .u64 A)) (h4 : Rk g w w') (h5 : Rs g v (p + j + 1) w') : NumSays g v p bs w e w' :=
  ⟨h4, Or.inl ⟨A, _, h1, h2.1, h3, by rw [h2.2]; exact h5⟩⟩
theorem yes_here {bs : List UInt8} {p j A : Nat} {x : UInt8} (h1 : bs.drop p = (bs.drop p).take j ++ x :: bs.drop (p + j + 1)) (h2 : (bs.drop p).take (j + 1) = (bs.drop p).take j ++ [x]) (h3 : A = wv ((bs.drop p).take (j + 1))) (h4 : ((bs.drop p).take j).length = j) (h5 : Hi ((bs.drop p).take j)) (h6 : x.toNat < 128) (h7 : j ≠ 0 → x.toNat ≠ 0) : bs.drop p = vb A ++ bs.drop (p + j + 1) ∧ (vb A).length = j + 1 := by
  have h8 : (bs.drop p).take j ≠ [] → x.toNat ≠ 0 := fun h => h7 (fun e => h (by rw [e]; rfl))
  have h9 := yes_v (bs.drop (p + j + 1)) h5 h6 h8
  have h10 := vb_back _ x h5 h6 h8
  rw [h3, h2]
  refine ⟨by rw [← h9]; exact h1, ?_⟩
  rw [h10, List.length_append, h4]
  rfl
set_option maxHeartbeats 4000000 in
theorem c_number (g : Nat) (v : Value) (p : Nat) (bs : List UInt8) (w : World) (hr : Rs g v p w) (hx : Bx g w v bs) (hp : p ≤ bs.length) (hl : bs.length ≤ 1000000) : Calls Tryd.prog 37 #[.pointer (some ⟨g, 0, none⟩)] w (NumSays g v p bs w) := by
  have NX := Lib.hid (fun q W (hr : Rs g v q W) (k : Rk g w W) (hq : q < bs.length) => c_next g v q bs W hr (hx.kept k) hq hl)
  have NN := Lib.hid (fun W (hr : Rs g v bs.length W) (k : Rk g w W) => c_next_no g v bs W hr (hx.kept k) hl)
  have MT := Lib.hid (fun W => c_must W)
  have MN := Lib.hid (fun W => c_must_no W)
  have RS := Lib.hid hr
  clear hr hx
  go_enter Tryd.func37, Tryd.ntmps37
  go_wp2_with fail
  go_loopw [3, 4] (fun n s wr => ∃ j : Nat, p + j ≤ bs.length ∧ s = .int .i64 (7 * (j : Int)) ∧ Hid (Rk g w wr ∧ Rs g v (p + j) wr) ∧ Hid (Hi ((bs.drop p).take j)) ∧ Hid (wv ((bs.drop p).take j) < 18446744073709551616) ∧ n = .int .u64 (wv ((bs.drop p).take j))) (fun _ s _ => 7 * bs.length - (intOf s).toNat)
  case atStart => exact ⟨0, by omega, rfl, Lib.hid ⟨Rk.refl _ _, RS.out⟩, Lib.hid (fun x hx => by simp at hx), Lib.hid (by simp [wv]), by simp [wv]⟩
  case round =>
    obtain ⟨j, hj, rfl, RR, HI, WL, rfl⟩ := hrel
    by_cases hlt : p + j < bs.length
    · obtain ⟨x, hx0⟩ : ∃ x, x = bs[p + j] := ⟨_, rfl⟩
      have NX1 := Lib.hid (NX.out (p + j) wr RR.out.2 RR.out.1 hlt)
      rw [← hx0] at NX1
      have hx := Lib.hid hx0
      clear hx0
      have s0 : (0 : Int) ≤ 7 * (j : Int) := by omega
      obtain ⟨pt, hpt0⟩ : ∃ pt : Nat, pt = x.toNat % 128 := ⟨_, rfl⟩
      have P0 : (x.toNat : Int) % 128 = (pt : Int) := by omega
      have p1 : (pt : Int) < 128 := by omega
      have hpt := Lib.hid hpt0
      obtain ⟨N, hN⟩ : ∃ N : Nat, N = 128 ^ j * pt % 18446744073709551616 := ⟨_, rfl⟩
      obtain ⟨M, hM⟩ : ∃ M : Nat, M = N / 128 ^ j := ⟨_, rfl⟩
      obtain ⟨A, hA⟩ : ∃ A : Nat, A = wv ((bs.drop p).take j) := ⟨_, rfl⟩
      have SH : IntKind.u64.wrap ((pt : Int) * 2 ^ min (7 * j) 64) = (N : Int) := by
        have := shl_eq (p := pt) (j := j) (by omega)
        rw [show (7 * (j : Int)).toNat = 7 * j from by omega] at this
        rw [IntKind.wrap_u64, this, hN]
      have SR : (N : Int) / 2 ^ min (7 * j) 64 = (M : Int) := by
        have := shr_eq (x := N) (j := j) (by omega)
        rw [show (7 * (j : Int)).toNat = 7 * j from by omega] at this
        rw [this, hM]
      have FI := Lib.hid (fit_iff (p := pt) (j := j) (by omega))
      have TA := Lib.hid (take_at hlt)
      have DA := Lib.hid (drop_at hlt)
      have TL := Lib.hid (take_len (bs := bs) (p := p) (j := j) (by omega))
      rw [← hx.out] at TA DA
      by_cases c1 : M = pt
      · have c1' : ((M : Int) == (pt : Int)) = true := by rw [c1]; exact beq_self_eq_true _
        have FT : Hid (128 ^ j * pt < 18446744073709551616) := Lib.hid (FI.out.1 (by rw [← hN, ← hM]; exact c1))
        obtain ⟨A2, hA2⟩ : ∃ A2 : Nat, A2 = wv ((bs.drop p).take (j + 1)) := ⟨_, rfl⟩
        have FW : Hid (A2 < 18446744073709551616) := Lib.hid (by rw [hA2, TA.out]; exact fits WL.out (by rw [TL.out, ← hpt0]; exact FT.out))
        have AD : IntKind.u64.wrap ((A : Int) + (N : Int)) = (A2 : Int) := by
          have e : A2 = A + N := by rw [hA2, TA.out, wv_snoc, TL.out, ← hpt0, hA, hN, Nat.mod_eq_of_lt FT.out]
          have := FW.out
          rw [IntKind.wrap_u64, e]
          omega
        rw [← hA]
        have HA := Lib.hid hA
        have HA2 := Lib.hid hA2
        clear hN hM c1 hpt0 hA hA2
        by_cases c2 : x.toNat < 128
        · have c2' : (x.toNat : Int) < 128 := by omega
          have XP : Hid (x.toNat = pt) := Lib.hid (by have := hpt.out; omega)
          by_cases c3 : 0 < pt
          · have z0 : (0 : Int) < (pt : Int) := by omega
            have YV : Hid (bs.drop p = vb A2 ++ bs.drop (p + j + 1) ∧ (vb A2).length = j + 1) := Lib.hid (yes_here DA.out TA.out HA2.out TL.out HI.out c2 (fun _ => by have := XP.out; omega))
            clear c2 c3
            go_wp2_with fail
            refine (NX1.out).mono ?_
            rintro e w1 ⟨rfl, rs1, rk1⟩
            go_wp2_with (first | (refine (MT.out _).mono ?_; rintro e w2 ⟨rfl, rfl⟩))
            go_ret
            exact NumSays.yes FW.out YV.out rfl (RR.out.1.trans rk1) rs1
          · have z0 : ¬ (0 : Int) < (pt : Int) := by omega
            by_cases c4 : j = 0
            · have z1 : (7 * (j : Int) == 0) = true := by rw [beq_iff_eq]; omega
              have SH2 : IntKind.u64.wrap ((pt : Int) * 2 ^ (7 * j)) = (N : Int) := by rw [Nat.min_eq_left (by omega)] at SH; exact SH
              have SR2 : (N : Int) / 2 ^ (7 * j) = (M : Int) := by rw [Nat.min_eq_left (by omega)] at SR; exact SR
              have YV : Hid (bs.drop p = vb A2 ++ bs.drop (p + j + 1) ∧ (vb A2).length = j + 1) := Lib.hid (yes_here DA.out TA.out HA2.out TL.out HI.out c2 (fun h => absurd c4 h))
              clear c2 c3 c4
              go_wp2_with fail
              refine (NX1.out).mono ?_
              rintro e w1 ⟨rfl, rs1, rk1⟩
              go_wp2_with (first | (refine (MT.out _).mono ?_; rintro e w2 ⟨rfl, rfl⟩))
              go_ret
              exact NumSays.yes FW.out YV.out rfl (RR.out.1.trans rk1) rs1
            · have z1 : (7 * (j : Int) == 0) = false := by rw [beq_eq_false_iff_ne]; omega
              have NV : Hid (NoV (bs.drop p)) := Lib.hid (by rw [DA.out]; exact no_zero HI.out (fun h => c4 (by rw [← TL.out, h]; rfl)) (by have := XP.out; omega))
              clear c2 c3 c4
              go_wp2_with fail
              refine (NX1.out).mono ?_
              rintro e w1 ⟨rfl, rs1, rk1⟩
              go_wp2_with (first | (refine (MT.out _).mono ?_; rintro e w2 ⟨rfl, rfl⟩) | (refine (MN.out _).mono ?_; rintro e w2 ⟨he, rfl⟩; unfold bang at he; subst he))
              exact ⟨rfl, RR.out.1.trans rk1, Or.inr ⟨NV.out, rfl⟩⟩
        · have c2' : decide ((x.toNat : Int) < 128) = false := by rw [decide_eq_false_iff_not]; omega
          have HI2 : Hid (Hi ((bs.drop p).take (j + 1))) := Lib.hid (by
            rw [TA.out]
            intro y hy
            rcases List.mem_append.1 hy with hy | hy
            · exact HI.out y hy
            · rw [List.mem_singleton.1 hy]; omega)
          have s1 : 7 * (j : Int) + 7 ≤ 9223372036854775807 := by omega
          clear c2
          go_wp2_with fail
          refine (NX1.out).mono ?_
          rintro e w1 ⟨rfl, rs1, rk1⟩
          go_wp2_with (first | (refine (MT.out _).mono ?_; rintro e w2 ⟨rfl, rfl⟩))
          go_roundw
          case rel => exact ⟨j + 1, by omega, by go_num, Lib.hid ⟨RR.out.1.trans rk1, rs1⟩, HI2, by rw [← HA2.out]; exact FW, by rw [HA2.out]⟩
          case measure => simp [intOf]; omega
      · have c1' : ((M : Int) == (pt : Int)) = false := by rw [beq_eq_false_iff_ne]; omega
        have NV : Hid (NoV (bs.drop p)) := Lib.hid (by
          rw [DA.out]
          refine no_unfit HI.out ?_
          rw [TL.out, ← hpt0]
          refine Nat.le_of_not_lt fun h => c1 ?_
          rw [hM, hN]
          exact FI.out.2 h)
        clear hN hM c1 hpt0 hA
        go_wp2_with fail
        refine (NX1.out).mono ?_
        rintro e w1 ⟨rfl, rs1, rk1⟩
        go_wp2_with (first | (refine (MN.out _).mono ?_; rintro e w2 ⟨he, rfl⟩; unfold bang at he; subst he))
        exact ⟨rfl, RR.out.1.trans rk1, Or.inr ⟨NV.out, rfl⟩⟩
    · have e0 : p + j = bs.length := by omega
      have NV : Hid (NoV (bs.drop p)) := Lib.hid (by
        have := HI.out
        rw [List.take_of_length_le (by rw [List.length_drop]; omega)] at this
        exact no_end this)
      have NN1 := Lib.hid (NN.out wr (by rw [← e0]; exact RR.out.2) RR.out.1)
      go_wp2_with fail
      refine (NN1.out).mono ?_
      rintro e w1 ⟨he, rk1⟩
      unfold bang at he
      subst he
      go_wp2_with fail
      exact ⟨rfl, RR.out.1.trans rk1, Or.inr ⟨NV.out, rfl⟩⟩
end Co
end Go.Proofs.YtljmdpjjieoedaaDoor
