/-
  Plain facts of integers, lists of integers and frames as bytes. No program.
-/
import Derived.Test.YtljmdpjjieoedaaDoorDigPlain
namespace Go.Proofs.YtljmdpjjieoedaaDoor
namespace Co

/-- Integers of 64 bits. -/
def I64 (n : Int) : Prop := -9223372036854775808 ≤ n ∧ n ≤ 9223372036854775807
/-- The number of an integer. -/
def num (n : Int) : Nat := if n < 0 then (-2 * n - 1).toNat else (2 * n).toNat
/-- The integer with a number. -/
def unum (u : Nat) : Int := if u % 2 = 1 then -((u / 2 : Nat) : Int) - 1 else ((u / 2 : Nat) : Int)
theorem unum_num (n : Int) : unum (num n) = n := by
  unfold unum num
  split <;> split <;> omega
theorem num_unum (u : Nat) : num (unum u) = u := by
  unfold unum num
  split <;> split <;> omega
theorem num_inj {n m : Int} (h : num n = num m) : n = m := by rw [← unum_num n, ← unum_num m, h]
theorem num_lt {n : Int} (h : I64 n) : num n < 18446744073709551616 := by
  unfold I64 at h
  unfold num
  split <;> omega
theorem unum_ok {u : Nat} (h : u < 18446744073709551616) : I64 (unum u) := by
  unfold I64 unum
  split <;> omega

/-- The bytes of a number. -/
def vb (u : Nat) : List UInt8 := if u < 128 then [UInt8.ofNat u] else UInt8.ofNat (u % 128 + 128) :: vb (u / 128)
/-- What bytes say. -/
def wv : List UInt8 → Nat
  | [] => 0
  | x :: l => x.toNat % 128 + 128 * wv l
/-- All bytes say that more follow. -/
def Hi (l : List UInt8) : Prop := ∀ x, x ∈ l → 128 ≤ x.toNat
theorem byte_nat {n : Nat} (h : n < 256) : (UInt8.ofNat n).toNat = n := by rw [UInt8.toNat_ofNat']; omega
theorem vb_low {u : Nat} (h : u < 128) : vb u = [UInt8.ofNat u] := by rw [vb, if_pos h]
theorem vb_high {u : Nat} (h : 128 ≤ u) : vb u = UInt8.ofNat (u % 128 + 128) :: vb (u / 128) := by rw [vb, if_neg (by omega)]
theorem vb_split (u : Nat) : ∃ k x, vb u = k ++ [x] ∧ Hi k ∧ x.toNat < 128 ∧ (k ≠ [] → x.toNat ≠ 0) ∧ wv (vb u) = u := by
  induction u using Nat.strongRecOn with
  | _ u ih =>
    by_cases h : u < 128
    · refine ⟨[], UInt8.ofNat u, vb_low h, fun x hx => (by cases hx), by rw [byte_nat (by omega)]; exact h, fun h => absurd rfl h, ?_⟩
      rw [vb_low h, wv, wv, byte_nat (by omega)]
      omega
    · obtain ⟨k, x, h1, h2, h3, h4, h5⟩ := ih (u / 128) (by omega)
      have e : (UInt8.ofNat (u % 128 + 128)).toNat = u % 128 + 128 := byte_nat (by omega)
      refine ⟨UInt8.ofNat (u % 128 + 128) :: k, x, by rw [vb_high (by omega), h1]; rfl, fun y hy => ?_, h3, fun _ => ?_, ?_⟩
      · rcases List.mem_cons.1 hy with rfl | hy
        · rw [e]; omega
        · exact h2 y hy
      · by_cases k0 : k = []
        · subst k0
          rw [h1, List.nil_append, wv, wv] at h5
          omega
        · exact h4 k0
      · rw [vb_high (by omega), wv, h5, e]
        omega
theorem wv_vb (u : Nat) : wv (vb u) = u := by
  obtain ⟨k, x, _, _, _, _, h⟩ := vb_split u
  exact h
theorem vb_ne (u : Nat) : vb u ≠ [] := by
  obtain ⟨k, x, h, _⟩ := vb_split u
  rw [h]
  simp
theorem wv_append (k l : List UInt8) : wv (k ++ l) = wv k + 128 ^ k.length * wv l := by
  induction k with
  | nil => simp [wv]
  | cons x k ih =>
    rw [List.cons_append, wv, ih, wv, List.length_cons, Nat.pow_succ, Nat.mul_add, ← Nat.mul_assoc, Nat.mul_comm 128 (128 ^ k.length)]
    omega
theorem wv_lt (k : List UInt8) : wv k < 128 ^ k.length := by
  induction k with
  | nil => simp [wv]
  | cons x k ih =>
    rw [wv, List.length_cons, Nat.pow_succ]
    omega
theorem wv_one (x : UInt8) : wv [x] = x.toNat % 128 := by rw [wv, wv]; omega
theorem wv_snoc (k : List UInt8) (x : UInt8) : wv (k ++ [x]) = wv k + 128 ^ k.length * (x.toNat % 128) := by rw [wv_append, wv_one]
theorem vb_back (k : List UInt8) (x : UInt8) (h1 : Hi k) (h2 : x.toNat < 128) (h3 : k ≠ [] → x.toNat ≠ 0) : vb (wv (k ++ [x])) = k ++ [x] := by
  induction k with
  | nil =>
    rw [List.nil_append, wv_one, Nat.mod_eq_of_lt h2, vb_low h2, UInt8.ofNat_toNat]
  | cons y k ih =>
    have y0 := h1 y List.mem_cons_self
    have y1 := y.toNat_lt
    have x0 := h3 (by simp)
    have e := ih (fun z hz => h1 z (List.mem_cons_of_mem _ hz)) (fun _ => x0)
    have p : 0 < wv (k ++ [x]) := by
      rw [wv_snoc, Nat.mod_eq_of_lt h2]
      have : 0 < 128 ^ k.length * x.toNat := Nat.mul_pos (Nat.pow_pos (by decide)) (by omega)
      omega
    rw [List.cons_append, wv, vb_high (by omega), show (y.toNat % 128 + 128 * wv (k ++ [x])) / 128 = wv (k ++ [x]) from by omega, e, show (y.toNat % 128 + 128 * wv (k ++ [x])) % 128 + 128 = y.toNat from by omega, UInt8.ofNat_toNat]
theorem vb_free : ∀ (u v : Nat) (r s : List UInt8), vb u ++ r = vb v ++ s → u = v ∧ r = s := by
  intro u
  induction u using Nat.strongRecOn with
  | _ u ih =>
    intro v r s h
    by_cases hu : u < 128
    · by_cases hv : v < 128
      · rw [vb_low hu, vb_low hv] at h
        obtain ⟨h1, h2⟩ := List.cons.inj h
        have := congrArg UInt8.toNat h1
        rw [byte_nat (by omega), byte_nat (by omega)] at this
        exact ⟨this, h2⟩
      · rw [vb_low hu, vb_high (by omega)] at h
        have := congrArg UInt8.toNat (List.cons.inj h).1
        rw [byte_nat (by omega), byte_nat (by omega)] at this
        omega
    · by_cases hv : v < 128
      · rw [vb_low hv, vb_high (by omega)] at h
        have := congrArg UInt8.toNat (List.cons.inj h).1
        rw [byte_nat (by omega), byte_nat (by omega)] at this
        omega
      · rw [vb_high (by omega), vb_high (by omega : 128 ≤ v)] at h
        obtain ⟨h1, h2⟩ := List.cons.inj h
        have := congrArg UInt8.toNat h1
        rw [byte_nat (by omega), byte_nat (by omega)] at this
        obtain ⟨h3, h4⟩ := ih (u / 128) (by omega) (v / 128) r s h2
        exact ⟨by omega, h4⟩
theorem vb_len : ∀ (k u : Nat), u < 128 ^ (k + 1) → (vb u).length ≤ k + 1
  | 0, u, h => by rw [vb_low (by simpa using h)]; simp
  | k + 1, u, h => by
    by_cases c : u < 128
    · rw [vb_low c]; simp
    · rw [vb_high (by omega), List.length_cons]
      have := vb_len k (u / 128) (by rw [Nat.pow_succ] at h; omega)
      omega
theorem vb_ten {u : Nat} (h : u < 18446744073709551616) : (vb u).length ≤ 10 := vb_len 9 u (by omega)
theorem vb_pos (u : Nat) : 0 < (vb u).length := List.length_pos_iff.2 (vb_ne u)

/-! ### Bytes with which no number begins -/
def NoV (bs : List UInt8) : Prop := ∀ u r, u < 18446744073709551616 → bs ≠ vb u ++ r
theorem hi_le {k k' : List UInt8} {x : UInt8} {r s : List UInt8} (hk : Hi k) (hx : x.toNat < 128) (h : k ++ r = k' ++ x :: s) : k.length ≤ k'.length := by
  refine Nat.le_of_not_lt fun c => ?_
  have e1 : (k ++ r)[k'.length]? = k[k'.length]? := List.getElem?_append_left c
  rw [h, List.getElem?_append_right (Nat.le_refl _), Nat.sub_self, List.getElem?_cons_zero] at e1
  have := hk x (List.mem_of_getElem? e1.symm)
  omega
theorem no_end {k : List UInt8} (h : Hi k) : NoV k := by
  intro u r _ e
  obtain ⟨k', x, h1, _, h3, _⟩ := vb_split u
  rw [h1, List.append_assoc] at e
  have := hi_le (r := []) h h3 (by rw [List.append_nil]; exact e)
  have := congrArg List.length e
  simp at this
  omega
theorem no_unfit {k : List UInt8} {x : UInt8} {r : List UInt8} (h : Hi k) (hx : 18446744073709551616 ≤ 128 ^ k.length * (x.toNat % 128)) : NoV (k ++ x :: r) := by
  intro u s hu e
  obtain ⟨k', y, h1, _, h3, _, h5⟩ := vb_split u
  rw [h1, List.append_assoc] at e
  have l := hi_le h h3 e
  have e2 : k ++ [x] ++ r = k' ++ [y] ++ s := by simpa using e
  have e3 : (k' ++ [y]).take (k.length + 1) = k ++ [x] := by
    have := congrArg (List.take (k.length + 1)) e2
    rw [List.take_append_of_le_length (l₂ := r) (by simp), List.take_append_of_le_length (l₂ := s) (by simp; omega)] at this
    rw [← this]
    exact List.take_of_length_le (by simp)
  have e4 : wv (vb u) = wv (k ++ [x]) + 128 ^ (k ++ [x]).length * wv ((k' ++ [y]).drop (k.length + 1)) := by
    rw [h1]
    conv => lhs; rw [← List.take_append_drop (k.length + 1) (k' ++ [y]), e3]
    rw [wv_append]
  rw [h5, wv_snoc] at e4
  have : 0 ≤ 128 ^ (k ++ [x]).length * wv ((k' ++ [y]).drop (k.length + 1)) := Nat.zero_le _
  omega
theorem no_zero {k : List UInt8} {x : UInt8} {r : List UInt8} (h : Hi k) (h0 : k ≠ []) (hx : x.toNat = 0) : NoV (k ++ x :: r) := by
  intro u s hu e
  obtain ⟨k', y, h1, h2, h3, h4, _⟩ := vb_split u
  rw [h1, List.append_assoc] at e
  have l := hi_le h h3 e
  have l' := hi_le h2 (show x.toNat < 128 by omega) e.symm
  obtain ⟨e1, e2⟩ := List.append_inj e (by omega)
  rw [List.singleton_append] at e2
  have := (List.cons.inj e2).1
  subst this e1
  exact h4 h0 hx
theorem yes_v {k : List UInt8} {x : UInt8} (r : List UInt8) (h : Hi k) (h2 : x.toNat < 128) (h3 : k ≠ [] → x.toNat ≠ 0) : k ++ x :: r = vb (wv (k ++ [x])) ++ r := by
  rw [vb_back k x h h2 h3]
  simp
theorem pow_seven (j : Nat) : 128 ^ j = 2 ^ (7 * j) := by rw [show (128 : Nat) = 2 ^ 7 from rfl, ← Nat.pow_mul]
/-- What fits, fits with what was read before. -/
theorem fits {k : List UInt8} {x : UInt8} (h0 : wv k < 18446744073709551616) (h : 128 ^ k.length * (x.toNat % 128) < 18446744073709551616) : wv (k ++ [x]) < 18446744073709551616 := by
  rw [wv_snoc]
  by_cases c : x.toNat % 128 = 0
  · rw [c]; omega
  · have l := wv_lt k
    have hk : k.length ≤ 9 := by
      refine Nat.le_of_not_lt fun d => ?_
      have p : 128 ^ 10 ≤ 128 ^ k.length := Nat.pow_le_pow_right (by decide) d
      have q : 128 ^ k.length * 1 ≤ 128 ^ k.length * (x.toNat % 128) := Nat.mul_le_mul_left _ (by omega)
      omega
    obtain ⟨t, ht⟩ : ∃ t, t = k.length := ⟨_, rfl⟩
    rw [← ht] at h l hk ⊢
    match t, hk with
    | 0, _ => omega
    | 1, _ => omega
    | 2, _ => omega
    | 3, _ => omega
    | 4, _ => omega
    | 5, _ => omega
    | 6, _ => omega
    | 7, _ => omega
    | 8, _ => omega
    | 9, _ => omega

/-! ### Lists -/
/-- The bytes of an integer. -/
def ib (n : Int) : List UInt8 := vb (num n)
def il (l : List Int) : List UInt8 := l.flatMap ib
/-- The bytes of a list. -/
def lb (l : List Int) : List UInt8 := ib (l.length : Int) ++ il l
/-- A list that can be written. -/
def Lok (l : List Int) : Prop := l.length ≤ 4000 ∧ ∀ n, n ∈ l → I64 n
def NoI (bs : List UInt8) : Prop := ∀ n r, I64 n → bs ≠ ib n ++ r
def NoL (bs : List UInt8) : Prop := ∀ l, Lok l → bs ≠ lb l
theorem il_nil : il [] = [] := rfl
theorem il_cons (n : Int) (l : List Int) : il (n :: l) = ib n ++ il l := rfl
theorem il_append (k l : List Int) : il (k ++ l) = il k ++ il l := List.flatMap_append
theorem il_snoc (l : List Int) (n : Int) : il (l ++ [n]) = il l ++ ib n := by rw [il_append, il_cons, il_nil, List.append_nil]
theorem ib_free {n m : Int} {r s : List UInt8} (h : ib n ++ r = ib m ++ s) : n = m ∧ r = s := by
  obtain ⟨h1, h2⟩ := vb_free _ _ _ _ h
  exact ⟨num_inj h1, h2⟩
theorem il_free : ∀ (k l : List Int) (r s : List UInt8), k.length = l.length → il k ++ r = il l ++ s → k = l ∧ r = s
  | [], [], r, s, _, h => ⟨rfl, h⟩
  | n :: k, m :: l, r, s, hl, h => by
    rw [il_cons, il_cons, List.append_assoc, List.append_assoc] at h
    obtain ⟨rfl, h1⟩ := ib_free h
    obtain ⟨rfl, h2⟩ := il_free k l r s (by simpa using hl) h1
    exact ⟨rfl, h2⟩
theorem lb_free {k l : List Int} {r s : List UInt8} (h : lb k ++ r = lb l ++ s) : k = l ∧ r = s := by
  unfold lb at h
  rw [List.append_assoc, List.append_assoc] at h
  obtain ⟨h1, h2⟩ := ib_free h
  exact il_free k l r s (by omega) h2
theorem lb_inj {k l : List Int} (h : lb k = lb l) : k = l := (lb_free (r := []) (s := []) (by rw [h])).1
theorem no_i_of {bs : List UInt8} (h : NoV bs) : NoI bs := fun n r hn => h (num n) r (num_lt hn)
theorem ib_ten {n : Int} (h : I64 n) : (ib n).length ≤ 10 := vb_ten (num_lt h)
theorem ib_pos (n : Int) : 0 < (ib n).length := vb_pos _
theorem il_len : ∀ (l : List Int), (∀ n, n ∈ l → I64 n) → (il l).length ≤ 10 * l.length
  | [], _ => by simp [il_nil]
  | n :: l, h => by
    have h0 := ib_ten (h n List.mem_cons_self)
    have h1 := il_len l (fun m hm => h m (List.mem_cons_of_mem _ hm))
    rw [il_cons, List.length_append, List.length_cons]
    omega
theorem lb_len {l : List Int} (h : Lok l) : (lb l).length ≤ 10 * l.length + 2 := by
  have h1 := il_len l h.2
  have h2 : (ib (l.length : Int)).length ≤ 2 := vb_len 1 _ (by unfold num; have := h.1; split <;> omega)
  unfold lb
  rw [List.length_append]
  omega
theorem lb_pos (l : List Int) : 0 < (lb l).length := by
  unfold lb
  rw [List.length_append]
  have := ib_pos (l.length : Int)
  omega
theorem len_ok {l : List Int} (h : Lok l) : I64 (l.length : Int) := by
  have := h.1
  unfold I64
  omega
theorem no_count {bs : List UInt8} (h : NoI bs) : NoL bs := fun l hl e => h _ (il l) (len_ok hl) e
theorem no_range {n : Int} {r : List UInt8} (h : n < 0 ∨ 4000 < n) : NoL (ib n ++ r) := fun l hl e => by
  have := hl.1
  have := (ib_free e).1
  omega
theorem no_item {k : List Int} {n : Nat} {r : List UInt8} (hk : k.length < n) (h : NoI r) : NoL (ib (n : Int) ++ (il k ++ r)) := fun l hl e => by
  obtain ⟨h1, h2⟩ := ib_free e
  have hn : n = l.length := by omega
  have h3 : il k ++ r = il (l.take k.length) ++ il (l.drop k.length) := by rw [h2, ← il_append, List.take_append_drop]
  obtain ⟨_, h4⟩ := il_free _ _ _ _ (by rw [List.length_take]; omega) h3
  have h5 : l.drop k.length ≠ [] := by
    intro c
    have := congrArg List.length c
    rw [List.length_drop, List.length_nil] at this
    omega
  obtain ⟨m, t, h6⟩ := List.exists_cons_of_ne_nil h5
  have hm : m ∈ l := List.mem_of_mem_drop (by rw [h6]; exact List.mem_cons_self)
  exact h m (il t) (hl.2 m hm) (by rw [h4, h6, il_cons])
theorem no_more {k : List Int} {r : List UInt8} (h : r ≠ []) : NoL (lb k ++ r) := fun l _ e => h (lb_free (s := []) (by rw [List.append_nil]; exact e)).2

/-! ### Frames -/
/-- Three bytes of a number. -/
def hd3 (n : Nat) : List UInt8 := [UInt8.ofNat (n / 65536), UInt8.ofNat (n / 256 % 256), UInt8.ofNat (n % 256)]
/-- What three bytes say. -/
def by3 (x y z : UInt8) : Nat := x.toNat * 65536 + y.toNat * 256 + z.toNat
/-- Three bytes and those of a list. -/
def fh (l : List Int) : List UInt8 := hd3 (lb l).length ++ lb l
/-- The frame of a list. -/
def fr (l : List Int) : List UInt8 := fh l ++ Dg.head8 (Dg.tx (fh l))
def NoF (bs : List UInt8) : Prop := ∀ l r, Lok l → bs ≠ fr l ++ r
def fl (L : List (List Int)) : List UInt8 := L.flatMap fr
theorem head8_len (d : BitVec 64) : (Dg.head8 d).length = 8 := by unfold Dg.head8; rw [List.length_map, List.length_range]
theorem by8_bit (d : BitVec 64) {i : Nat} (h : i < 64) : (Dg.by8 d (7 - i / 8)).toBitVec.getLsbD (i % 8) = d.getLsbD i := by
  unfold Dg.by8
  rw [UInt8.toBitVec_ofBitVec, BitVec.getLsbD_setWidth, BitVec.getLsbD_ushiftRight, show 56 - 8 * (7 - i / 8) + i % 8 = i from by omega, decide_eq_true (show i % 8 < 8 by omega), Bool.true_and]
theorem head_inj {d e : BitVec 64} (h : Dg.head8 d = Dg.head8 e) : d = e := by
  have each : ∀ j, j < 8 → Dg.by8 d j = Dg.by8 e j := fun j hj => by
    have := congrArg (fun l => l[j]?) h
    unfold Dg.head8 at this
    simpa [hj] using this
  refine BitVec.eq_of_getLsbD_eq fun i hi => ?_
  rw [← by8_bit d hi, ← by8_bit e hi, each _ (by omega)]
theorem by3_hd {n : Nat} (h : n < 16777216) : by3 (UInt8.ofNat (n / 65536)) (UInt8.ofNat (n / 256 % 256)) (UInt8.ofNat (n % 256)) = n := by
  unfold by3
  rw [byte_nat (by omega), byte_nat (by omega), byte_nat (by omega)]
  omega
theorem hd_by3 (x y z : UInt8) : hd3 (by3 x y z) = [x, y, z] := by
  have hx := x.toNat_lt
  have hy := y.toNat_lt
  have hz := z.toNat_lt
  unfold hd3 by3
  rw [show (x.toNat * 65536 + y.toNat * 256 + z.toNat) / 65536 = x.toNat from by omega, show (x.toNat * 65536 + y.toNat * 256 + z.toNat) / 256 % 256 = y.toNat from by omega, show (x.toNat * 65536 + y.toNat * 256 + z.toNat) % 256 = z.toNat from by omega, UInt8.ofNat_toNat, UInt8.ofNat_toNat, UInt8.ofNat_toNat]
theorem hd3_inj {n m : Nat} (hn : n < 16777216) (hm : m < 16777216) (h : hd3 n = hd3 m) : n = m := by
  unfold hd3 at h
  simp only [List.cons.injEq, and_true] at h
  obtain ⟨h1, h2, h3⟩ := h
  rw [← by3_hd hn, ← by3_hd hm, h1, h2, h3]
theorem hd3_len (n : Nat) : (hd3 n).length = 3 := rfl
theorem lb_fits {l : List Int} (h : Lok l) : (lb l).length < 16777216 := by
  have := lb_len h
  have := h.1
  omega
theorem fh_len (l : List Int) : (fh l).length = 3 + (lb l).length := by unfold fh; rw [List.length_append, hd3_len]
theorem fr_len (l : List Int) : (fr l).length = 11 + (lb l).length := by unfold fr; rw [List.length_append, fh_len, head8_len]; omega
theorem fr_at (l : List Int) (r : List UInt8) : fr l ++ r = hd3 (lb l).length ++ (lb l ++ (Dg.head8 (Dg.tx (fh l)) ++ r)) := by
  unfold fr
  conv => lhs; lhs; lhs; unfold fh
  rw [List.append_assoc, List.append_assoc]
theorem fr_free {k l : List Int} {r s : List UInt8} (h : fr k ++ r = fr l ++ s) : k = l ∧ r = s := by
  rw [fr_at, fr_at] at h
  obtain ⟨h1, h2⟩ := List.append_inj h rfl
  obtain ⟨h3, h4⟩ := lb_free h2
  subst h3
  exact ⟨rfl, (List.append_inj h4 rfl).2⟩
theorem no_short {bs : List UInt8} (h : bs.length < 11) : NoF bs := fun l r _ e => by
  have := congrArg List.length e
  rw [List.length_append, fr_len] at this
  omega
/-- Three bytes and a rest: what a frame asks. -/
theorem fr_head {x y z : UInt8} {b : List UInt8} {l : List Int} {r : List UInt8} (hl : Lok l) (h : x :: y :: z :: b = fr l ++ r) : (lb l).length = by3 x y z ∧ b = lb l ++ (Dg.head8 (Dg.tx (fh l)) ++ r) := by
  rw [fr_at] at h
  have h' : [x, y, z] ++ b = hd3 (lb l).length ++ (lb l ++ (Dg.head8 (Dg.tx (fh l)) ++ r)) := h
  obtain ⟨h1, h2⟩ := List.append_inj h' rfl
  refine ⟨?_, h2⟩
  unfold hd3 at h1
  simp only [List.cons.injEq, and_true] at h1
  obtain ⟨rfl, rfl, rfl⟩ := h1
  exact (by3_hd (lb_fits hl)).symm
theorem no_torn {x y z : UInt8} {b : List UInt8} (h : b.length < by3 x y z + 8) : NoF (x :: y :: z :: b) := fun l r hl e => by
  obtain ⟨h1, h2⟩ := fr_head hl e
  have := congrArg List.length h2
  rw [List.length_append, List.length_append, head8_len] at this
  omega
theorem no_seal {x y z : UInt8} {b s r : List UInt8} (hb : b.length = by3 x y z) (hs : s.length = 8) (h : s ≠ Dg.head8 (Dg.tx (x :: y :: z :: b))) : NoF (x :: y :: z :: (b ++ (s ++ r))) := fun l t hl e => by
  obtain ⟨h1, h2⟩ := fr_head hl e
  obtain ⟨h3, h4⟩ := List.append_inj h2 (by omega)
  obtain ⟨h5, _⟩ := List.append_inj h4 (by rw [head8_len]; exact hs)
  refine h ?_
  rw [h5]
  unfold fh
  rw [h1, hd_by3, h3]
  rfl
theorem no_list {x y z : UInt8} {b r : List UInt8} (hb : b.length = by3 x y z) (h : NoL b) : NoF (x :: y :: z :: (b ++ r)) := fun l t hl e => by
  obtain ⟨h1, h2⟩ := fr_head hl e
  exact h l hl (List.append_inj h2 (by omega)).1
theorem yes_f {x y z : UInt8} {l : List Int} (hb : (lb l).length = by3 x y z) (r : List UInt8) : x :: y :: z :: (lb l ++ (Dg.head8 (Dg.tx (x :: y :: z :: lb l)) ++ r)) = fr l ++ r := by
  rw [fr_at]
  unfold fh
  rw [hb, hd_by3]
  rfl
theorem fl_nil : fl [] = [] := rfl
theorem fl_cons (l : List Int) (L : List (List Int)) : fl (l :: L) = fr l ++ fl L := rfl
theorem fl_append (K L : List (List Int)) : fl (K ++ L) = fl K ++ fl L := List.flatMap_append
theorem fl_snoc (L : List (List Int)) (l : List Int) : fl (L ++ [l]) = fl L ++ fr l := by rw [fl_append, fl_cons, fl_nil, List.append_nil]
def Oks (L : List (List Int)) : Prop := ∀ l, l ∈ L → Lok l
theorem fl_free : ∀ (K L : List (List Int)) (r s : List UInt8), Oks K → Oks L → NoF r → NoF s → fl K ++ r = fl L ++ s → K = L ∧ r = s
  | [], [], r, s, _, _, _, _, h => ⟨rfl, h⟩
  | [], l :: L, r, s, _, hL, hr, _, h => by
    rw [fl_cons, List.append_assoc] at h
    exact absurd h (hr l _ (hL l List.mem_cons_self))
  | k :: K, [], r, s, hK, _, _, hs, h => by
    rw [fl_cons, List.append_assoc] at h
    exact absurd h.symm (hs k _ (hK k List.mem_cons_self))
  | k :: K, l :: L, r, s, hK, hL, hr, hs, h => by
    rw [fl_cons, fl_cons, List.append_assoc, List.append_assoc] at h
    obtain ⟨rfl, h1⟩ := fr_free h
    obtain ⟨rfl, h2⟩ := fl_free K L r s (fun x hx => hK x (List.mem_cons_of_mem _ hx)) (fun x hx => hL x (List.mem_cons_of_mem _ hx)) hr hs h1
    exact ⟨rfl, h2⟩
theorem no_part {l : List Int} {n : Nat} (h : n < (fr l).length) : NoF ((fr l).take n) := fun k r _ e => by
  have h1 : fr l ++ [] = fr k ++ (r ++ (fr l).drop n) := by rw [← List.append_assoc, ← e, List.take_append_drop, List.append_nil]
  obtain ⟨_, h2⟩ := fr_free h1
  have := congrArg List.length h2
  rw [List.length_append, List.length_drop, List.length_nil] at this
  omega
/-- A frame with one byte changed, behind its first three, is none. -/
theorem no_changed {l : List Int} (hl : Lok l) {i : Nat} (h3 : 3 ≤ i) (hi : i < (fr l).length) {y : UInt8} (hy : (fr l)[i]? ≠ some y) : NoF ((fr l).set i y) := fun k r hk e => by
  have hlen := fr_len l
  have e0 : (fr l).set i y ++ [] = fr k ++ r := by rw [List.append_nil]; exact e
  have e1 : (fr l).set i y = hd3 (lb l).length ++ ((lb l ++ Dg.head8 (Dg.tx (fh l))).set (i - 3) y) := by
    have := fr_at l []
    rw [List.append_nil, List.append_nil] at this
    rw [this, List.set_append, if_neg (by rw [hd3_len]; omega), hd3_len]
  rw [e1, fr_at, List.append_nil] at e0
  obtain ⟨h4, h5⟩ := List.append_inj e0 rfl
  have h6 := hd3_inj (lb_fits hl) (lb_fits hk) h4
  by_cases c : i - 3 < (lb l).length
  · rw [List.set_append, if_pos c] at h5
    obtain ⟨h7, h8⟩ := List.append_inj h5 (by rw [List.length_set, h6])
    have h9 : Dg.tx (fh l) = Dg.tx (fh k) := head_inj (List.append_inj (t₂ := r) (by rw [List.append_nil]; exact h8) (by rw [head8_len, head8_len])).1
    have h10 : fh k = (fh l).set i y := by
      unfold fh
      rw [List.set_append, if_neg (by rw [hd3_len]; omega), hd3_len, h7, h6]
    have hfl : i < (fh l).length := by rw [fh_len]; omega
    rw [h10] at h9
    have := (Dg.fl_set Dg.f0 (fh l) i hfl y).1 h9
    refine hy ?_
    rw [this]
    unfold fr
    rw [List.getElem?_append_left hfl, List.getElem?_eq_getElem hfl]
  · rw [List.set_append, if_neg c] at h5
    obtain ⟨h7, h8⟩ := List.append_inj h5 h6
    have h9 := lb_inj h7
    subst h9
    have h12 : (Dg.head8 (Dg.tx (fh l))).set (i - 3 - (lb l).length) y ++ [] = Dg.head8 (Dg.tx (fh l)) ++ r := by rw [List.append_nil]; exact h8
    have h10 := (List.append_inj h12 (by rw [List.length_set])).1
    have hs : i - 3 - (lb l).length < (Dg.head8 (Dg.tx (fh l))).length := by rw [head8_len]; omega
    refine hy ?_
    have h11 := List.getElem?_set_self (a := y) hs
    rw [h10] at h11
    rw [← h11]
    unfold fr
    rw [List.getElem?_append_right (by rw [fh_len]; omega), fh_len, show i - (3 + (lb l).length) = i - 3 - (lb l).length from by omega]
end Co
end Go.Proofs.YtljmdpjjieoedaaDoor
