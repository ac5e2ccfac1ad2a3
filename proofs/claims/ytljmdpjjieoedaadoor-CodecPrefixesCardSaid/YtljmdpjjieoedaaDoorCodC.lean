/-
  The landed package codec: the reader's list.
-/
import Derived.Test.YtljmdpjjieoedaaDoorCodB
import Derived.Recover
import Derived.Defers
import Derived.Laws.Pointers
import Derived.Laws.MakeOwn
namespace Go.Proofs.YtljmdpjjieoedaaDoor
open Go.RowKit Wd
namespace Co
set_option maxRecDepth 100000

theorem Rs.grew {g : Nat} {v : Value} {p : Nat} {W w : World} (h : Rs g v p W) (k : Grew W w) : Rs g v p w :=
  ⟨Nat.lt_of_lt_of_le h.lt k.size, by rw [k.cell h.lt]; exact h.bytes, by rw [k.cell h.lt]; exact h.pos, by rw [(laid k).2.1 _ _ h.lt]; exact h.free⟩
theorem Rs.other {g : Nat} {v : Value} {p : Nat} {w : World} (h : Rs g v p w) {b o : Nat} (hne : g ≠ b) (u : Value) : Rs g v p (w.setCell ⟨b, o, none⟩ u) := by
  have e : (w.setCell ⟨b, o, none⟩ u).heap[g]? = w.heap[g]? := Below.heap_setCell _ _ _ _ hne
  obtain ⟨h1, h2, h3, h4⟩ := h
  exact ⟨by simpa using h1, by rw [← h2]; exact World.cell?_of_block e, by rw [← h3]; exact World.cell?_of_block e, by rw [← h4]; exact World.frozen?_of_block e⟩
/-- What count answers. -/
def CountSays (g : Nat) (v : Value) (p : Nat) (bs : List UInt8) (w : World) (e : Ending) (w' : World) : Prop :=
  Rk g w w' ∧ ((∃ (n : Nat) (r : List UInt8), n ≤ 4000 ∧ bs.drop p = ib (n : Int) ++ r ∧ e = .returned (.int .i64 n) ∧ Rs g v (p + (ib (n : Int)).length) w') ∨ (NoL (bs.drop p) ∧ e = bang))
set_option maxHeartbeats 4000000 in
theorem c_count (g : Nat) (v : Value) (p : Nat) (bs : List UInt8) (w : World) (hr : Rs g v p w) (hx : Bx g w v bs) (hp : p ≤ bs.length) (hl : bs.length ≤ 1000000) : Calls Tryd.prog 35 #[.pointer (some ⟨g, 0, none⟩)] w (CountSays g v p bs w) := by
  have NU := Lib.hid (c_number g v p bs w hr hx hp hl)
  have IO := Lib.hid (fun u W (h : u < 18446744073709551616) => c_integerOf u W h)
  have MT := Lib.hid (fun W => c_must W)
  have MN := Lib.hid (fun W => c_must_no W)
  clear hr hx
  go_enter Tryd.func35, Tryd.ntmps35
  go_wp2_with fail
  refine (NU.out).mono ?_
  rintro e w1 ⟨rk, ⟨u, r, hu, hd, rfl, rs⟩ | ⟨nv, he⟩⟩
  · have HD := Lib.hid hd
    have RS := Lib.hid rs
    clear hd rs
    have UO := Lib.hid (unum_ok hu)
    have IO1 := Lib.hid (fun W => IO.out u W hu)
    obtain ⟨n, hn⟩ : ∃ n, n = unum u := ⟨_, rfl⟩
    have UN : Hid (num n = u) := Lib.hid (by rw [hn, num_unum])
    rw [← hn] at UO IO1
    clear hn hu
    by_cases c1 : n < 0
    · have c1' : ¬ (0 : Int) ≤ n := by omega
      have NL : Hid (NoL (bs.drop p)) := Lib.hid (by rw [HD.out, ← UN.out]; exact no_range (Or.inl c1))
      clear c1
      go_wp2_with fail
      refine (IO1.out _).mono ?_
      rintro e w2 ⟨rfl, rfl⟩
      go_wp2_with (first | (refine (MN.out _).mono ?_; rintro e w2 ⟨he, rfl⟩; unfold bang at he; subst he))
      exact ⟨rfl, rk, Or.inr ⟨NL.out, rfl⟩⟩
    · have c1' : (0 : Int) ≤ n := by omega
      clear c1
      by_cases c2 : 4000 < n
      · have c2' : decide (n ≤ 4000) = false := by rw [decide_eq_false_iff_not]; omega
        have NL : Hid (NoL (bs.drop p)) := Lib.hid (by rw [HD.out, ← UN.out]; exact no_range (Or.inr c2))
        clear c2
        go_wp2_with fail
        refine (IO1.out _).mono ?_
        rintro e w2 ⟨rfl, rfl⟩
        go_wp2_with (first | (refine (MN.out _).mono ?_; rintro e w2 ⟨he, rfl⟩; unfold bang at he; subst he))
        exact ⟨rfl, rk, Or.inr ⟨NL.out, rfl⟩⟩
      · have c2' : n ≤ 4000 := by omega
        clear c2
        obtain ⟨m, rfl⟩ : ∃ m : Nat, n = (m : Int) := ⟨n.toNat, by omega⟩
        go_wp2_with fail
        refine (IO1.out _).mono ?_
        rintro e w2 ⟨rfl, rfl⟩
        go_wp2_with (first | (refine (MT.out _).mono ?_; rintro e w2 ⟨rfl, rfl⟩))
        go_ret
        exact ⟨rk, Or.inl ⟨m, r, by omega, by rw [HD.out, ← UN.out]; rfl, rfl, by have := RS.out; rw [← UN.out] at this; exact this⟩⟩
  · have NV := Lib.hid nv
    clear nv
    unfold bang at he
    subst he
    go_wp2_with fail
    exact ⟨rfl, rk, Or.inr ⟨no_count (no_i_of NV.out), rfl⟩⟩
/-! ### The deferred function -/
set_option maxHeartbeats 4000000 in
theorem catch_bang (L E : Nat) (x y : Value) (older : List PanicEntry) (u : TypeId) (pv : Value) (w : World) (hL : w.cell? ⟨L, 0, none⟩ = some x) (fL : w.frozen? ⟨L, 0, none⟩ = false) (hE : w.cell? ⟨E, 0, none⟩ = some y) (fE : w.frozen? ⟨E, 0, none⟩ = false) (hne : L ≠ E) :
    CallsD Tryd.prog 34 #[.pointer (some ⟨L, 0, none⟩), .pointer (some ⟨E, 0, none⟩)] (.panicking ({ v := .iface u pv, recovered := false } :: older)) w fun e u' w' =>
      e = .returned (.tuple #[]) ∧ u' = .panicking ({ v := .iface u pv, recovered := true } :: older) ∧ w' = (w.setCell ⟨L, 0, none⟩ (.slice none 0 0)).setCell ⟨E, 0, none⟩ (.int .i64 7) := by
  refine callsD_of_wpS Tryd.func34 rfl fun c₀ cs hu => ?_
  apply wpS_seq
  apply wpS_region
  simp [wpOpsS, go_sem, recoverD, hu, Tryd.ntmps34, Exit.thenS]
  refine wpS_cond (t := true) (by simp [Act.eval, Array.replicate]) ?_
  simp only [if_true]
  apply wpS_region
  have hne' : ¬ E = L := fun e => hne e.symm
  simp [wpOpsS, go_sem, hL, hE, fL, fE, bodyPostS, results, Tryd.results34]
theorem catch_idle (a b : Value) (w : World) :
    CallsD Tryd.prog 34 #[a, b] .returning w fun e u' w' => e = .returned (.tuple #[]) ∧ u' = .returning ∧ w' = w := by
  refine callsD_of_wpS Tryd.func34 rfl fun c₀ cs hu => ?_
  apply wpS_seq
  apply wpS_region
  simp [wpOpsS, go_sem, recoverD, hu, Tryd.ntmps34, Exit.thenS]
  refine wpS_cond (t := false) (by simp [Act.eval, Array.replicate]) ?_
  simp only [Bool.false_eq_true, if_false]
  refine wpS_of_wp (wp_skip ?_)
  cases c₀
  simp_all [bodyPostS, results, Tryd.results34]
theorem door_bang {R : Ending → World → Prop} (L E : Nat) (x y : Value) (tmps : Array Value) (W : World) (h2 : tmps[2]? = some (.pointer (some ⟨L, 0, none⟩))) (h3 : tmps[3]? = some (.pointer (some ⟨E, 0, none⟩))) (hL : W.cell? ⟨L, 0, none⟩ = some x) (fL : W.frozen? ⟨L, 0, none⟩ = false) (hE : W.cell? ⟨E, 0, none⟩ = some y) (fE : W.frozen? ⟨E, 0, none⟩ = false) (hne : L ≠ E)
    (h : R (.returned (.tuple #[.slice none 0 0, .int .i64 7])) ((W.setCell ⟨L, 0, none⟩ (.slice none 0 0)).setCell ⟨E, 0, none⟩ (.int .i64 7))) :
    bodyPostD Tryd.prog Tryd.f28 R (Exit.panic [{ v := .iface 25 (.int .i64 7), recovered := false }]) { tmps := tmps, defers := [{ target := Target.fn (Fn.func 34) #[.pointer (some ⟨L, 0, none⟩), .pointer (some ⟨E, 0, none⟩)], args := #[] }] } W := by
  refine leaves_cons (f := 34) (args := #[.pointer (some ⟨L, 0, none⟩), .pointer (some ⟨E, 0, none⟩)]) (by simp) (by simp [go_sem]) ?_
  refine (catch_bang L E x y [] _ _ W hL fL hE fE hne).mono ?_
  rintro e u' w'' ⟨rfl, rfl, rfl⟩
  have hne' : ¬ E = L := fun e => hne e.symm
  simp [Leaves, settle, results, Tryd.results28, go_sem, h2, h3, hL, hE]
  exact h
/-- A post that at a panic asks of the frame only the results' cells and what is deferred. -/
def Calm (L E : Nat) (R' : List PanicEntry → World → Prop) (Q : Exit → Act → World → Prop) : Exit → Act → World → Prop
  | .panic c, a, w => a.defers = [{ target := Target.fn (Fn.func 34) #[.pointer (some ⟨L, 0, none⟩), .pointer (some ⟨E, 0, none⟩)], args := #[] }] ∧ a.tmps[2]? = some (.pointer (some ⟨L, 0, none⟩)) ∧ a.tmps[3]? = some (.pointer (some ⟨E, 0, none⟩)) ∧ R' c w
  | e, a, w => Q e a w
theorem calm_put {L E : Nat} {R' : List PanicEntry → World → Prop} {Q : Exit → Act → World → Prop} {c : List PanicEntry} {a : Act} {w : World} {d : Nat} {v : Value} (h2 : d ≠ 2) (h3 : d ≠ 3) (h : Calm L E R' Q (.panic c) (a.put (some d) v) w) : Calm L E R' Q (.panic c) a w := by
  obtain ⟨h4, h5, h6, h7⟩ := h
  refine ⟨h4, ?_, ?_, h7⟩
  · rw [← h5]
    simp [Act.put, h2]
  · rw [← h6]
    simp [Act.put, h3]
theorem calm_normal {L E : Nat} {R' : List PanicEntry → World → Prop} {Q : Exit → Act → World → Prop} {a : Act} {w : World} (h : Q .normal a w) : Calm L E R' Q .normal a w := h
theorem wp_calm {L E : Nat} {R' : List PanicEntry → World → Prop} {Q : Exit → Act → World → Prop} {x : Code} {a : Act} {w : World} (hQ : ∀ c a w, Calm L E R' Q (.panic c) a w → Q (.panic c) a w) (h : x.wp Tryd.prog (Calm L E R' Q) a w) : x.wp Tryd.prog Q a w :=
  Code.wp_mono (fun e a w h => by cases e <;> first | exact h | exact hQ _ _ _ h) h
theorem door_idle {R : Ending → World → Prop} (L E : Nat) (x y : Value) (tmps : Array Value) (W : World) (h2 : tmps[2]? = some (.pointer (some ⟨L, 0, none⟩))) (h3 : tmps[3]? = some (.pointer (some ⟨E, 0, none⟩))) (hL : W.cell? ⟨L, 0, none⟩ = some x) (hE : W.cell? ⟨E, 0, none⟩ = some y) (h : R (.returned (.tuple #[x, y])) W) :
    bodyPostD Tryd.prog Tryd.f28 R Exit.ret { tmps := tmps, defers := [{ target := Target.fn (Fn.func 34) #[.pointer (some ⟨L, 0, none⟩), .pointer (some ⟨E, 0, none⟩)], args := #[] }] } W := by
  refine leaves_cons (f := 34) (args := #[.pointer (some ⟨L, 0, none⟩), .pointer (some ⟨E, 0, none⟩)]) (by simp) (by simp [go_sem]) ?_
  refine (catch_idle _ _ W).mono ?_
  rintro e u' w'' ⟨rfl, rfl, rfl⟩
  simp [Leaves, settle, results, Tryd.results28, go_sem, h2, h3, hL, hE]
  exact h
/-- The two results' cells behind the reader's block. -/
structure Ld (g : Nat) (w W : World) (x y : Value) : Prop where
  low : Below g w W
  sz : w.heap.size + 1 < W.heap.size
  l : W.cell? ⟨w.heap.size, 0, none⟩ = some x
  fl : W.frozen? ⟨w.heap.size, 0, none⟩ = false
  e : W.cell? ⟨w.heap.size + 1, 0, none⟩ = some y
  fe : W.frozen? ⟨w.heap.size + 1, 0, none⟩ = false
theorem Ld.rk {g : Nat} {w W W' : World} {x y : Value} (h : Ld g w W x y) (hg : g < w.heap.size) (k : Rk g W W') : Ld g w W' x y := by
  obtain ⟨h1, h2, h3, h4, h5, h6⟩ := h
  have b : ∀ i, i < W.heap.size → i ≠ g → W'.heap[i]? = W.heap[i]? := fun i hi hn => k.block i hi (fun e => hn (Option.some.inj e))
  refine ⟨⟨k.os.trans h1.os, k.tape.trans h1.tape, k.output.trans h1.output, Nat.le_trans h1.size k.size, fun i hi => ?_⟩, Nat.lt_of_lt_of_le h2 k.size, ?_, ?_, ?_, ?_⟩
  · rw [b i (by omega) (by omega), h1.block i hi]
  · rw [← h3]; exact World.cell?_of_block (b _ (by show w.heap.size < _; omega) (by show w.heap.size ≠ g; omega))
  · rw [← h4]; exact World.frozen?_of_block (b _ (by show w.heap.size < _; omega) (by show w.heap.size ≠ g; omega))
  · rw [← h5]; exact World.cell?_of_block (b _ (by show w.heap.size + 1 < _; omega) (by show w.heap.size + 1 ≠ g; omega))
  · rw [← h6]; exact World.frozen?_of_block (b _ (by show w.heap.size + 1 < _; omega) (by show w.heap.size + 1 ≠ g; omega))
theorem Ld.new {g : Nat} {w : World} (hg : g < w.heap.size) (x y : Value) (t u : TypeId) : Ld g w ((w.alloc (.cells #[x] t)).alloc (.cells #[y] u)) x y := by
  refine ⟨((Below.refl g w).alloc (by omega) _).alloc (by simp; omega) _, by simp, ?_, ?_, ?_, ?_⟩ <;> simp [go_sem]
theorem Ld.grew {g : Nat} {w W W' : World} {x y : Value} (h : Ld g w W x y) (hg : g < w.heap.size) (k : Grew W W') : Ld g w W' x y :=
  h.rk hg ⟨k.os, k.tape, k.output, k.size, fun i hi _ => k.block i hi⟩
theorem Ld.setL {g : Nat} {w W : World} {x y : Value} (h : Ld g w W x y) (hg : g < w.heap.size) (u : Value) : Ld g w (W.setCell ⟨w.heap.size, 0, none⟩ u) u y := by
  obtain ⟨h1, h2, h3, h4, h5, h6⟩ := h
  refine ⟨h1.setCell (show g ≤ w.heap.size by omega) u, by simpa using h2, ?_, ?_, ?_, ?_⟩
  · simp [go_sem, h3]
  · simpa [go_sem] using h4
  · simp [go_sem, h5]
  · simpa [go_sem] using h6
theorem Ld.setE {g : Nat} {w W : World} {x y : Value} (h : Ld g w W x y) (hg : g < w.heap.size) (u : Value) : Ld g w (W.setCell ⟨w.heap.size + 1, 0, none⟩ u) x u := by
  obtain ⟨h1, h2, h3, h4, h5, h6⟩ := h
  refine ⟨h1.setCell (show g ≤ w.heap.size + 1 by omega) u, by simpa using h2, ?_, ?_, ?_, ?_⟩
  · simp [go_sem, h3]
  · simpa [go_sem] using h4
  · simp [go_sem, h5]
  · simpa [go_sem] using h6
theorem heap_set {w : World} {g o : Nat} {cur : Array Value} {t : TypeId} {fr : Nat × Nat} (v : Value) (h : w.heap[g]? = some (.cells cur t fr)) : (w.setCell ⟨g, o, none⟩ v).heap[g]? = some (.cells (cur.setIfInBounds o v) t fr) := by
  obtain ⟨hlt, hk⟩ := Array.getElem?_eq_some_iff.1 h
  show (w.heap.modify g _)[g]? = _
  rw [Array.getElem?_eq_getElem (by rw [Array.size_modify]; exact hlt), Array.getElem_modify_self, hk]
  rfl
theorem Ld.setO {g : Nat} {w W : World} {x y : Value} (h : Ld g w W x y) (hg : g < w.heap.size) {b o : Nat} (hb : w.heap.size + 1 < b) (u : Value) : Ld g w (W.setCell ⟨b, o, none⟩ u) x y := by
  obtain ⟨h1, h2, h3, h4, h5, h6⟩ := h
  have k : ∀ i, i < b → (W.setCell ⟨b, o, none⟩ u).heap[i]? = W.heap[i]? := fun i hi => Below.heap_setCell _ _ _ _ (by show i ≠ b; omega)
  refine ⟨h1.setCell (show g ≤ b by omega) u, by simpa using h2, ?_, ?_, ?_, ?_⟩
  · rw [← h3]; exact World.cell?_of_block (k _ (by show w.heap.size < _; omega))
  · rw [← h4]; exact World.frozen?_of_block (k _ (by show w.heap.size < _; omega))
  · rw [← h5]; exact World.cell?_of_block (k _ (by show w.heap.size + 1 < _; omega))
  · rw [← h6]; exact World.frozen?_of_block (k _ (by show w.heap.size + 1 < _; omega))
/-- The row of integers at block R, of which these are read. -/
def Rw (R n : Nat) (ks : List Int) (W : World) : Prop := ∃ cur, W.heap[R]? = some (.cells cur 3 (0, 0)) ∧ cur.size = n ∧ ks.length ≤ n ∧ ∀ i (h : i < ks.length), cur[i]? = some (.int .i64 ks[i])
theorem Rw.lt {R n : Nat} {ks : List Int} {W : World} (h : Rw R n ks W) : R < W.heap.size := by
  obtain ⟨cur, h1, _⟩ := h
  exact (Array.getElem?_eq_some_iff.1 h1).1
theorem Rw.rk {g R n : Nat} {ks : List Int} {W W' : World} (h : Rw R n ks W) (hne : R ≠ g) (k : Rk g W W') : Rw R n ks W' := by
  have hl := h.lt
  obtain ⟨cur, h1, h2⟩ := h
  exact ⟨cur, (k.block R hl (fun e => hne (Option.some.inj e))).trans h1, h2⟩
theorem Rw.other {R n : Nat} {ks : List Int} {W : World} (h : Rw R n ks W) {b o : Nat} (hne : R ≠ b) (u : Value) : Rw R n ks (W.setCell ⟨b, o, none⟩ u) := by
  obtain ⟨cur, h1, h2⟩ := h
  exact ⟨cur, (Below.heap_setCell _ _ _ _ hne).trans h1, h2⟩
theorem Rw.there {R n : Nat} {ks : List Int} {W : World} (h : Rw R n ks W) {i : Nat} (hi : i < n) : (∃ u, W.cell? ⟨R, i, none⟩ = some u) ∧ W.frozen? ⟨R, i, none⟩ = false := by
  obtain ⟨cur, h1, h2, _⟩ := h
  refine ⟨⟨cur[i]'(by omega), ?_⟩, ?_⟩
  · simp [World.cell?, h1]
  · simp [World.frozen?, h1]
theorem Rw.set {R n : Nat} {ks : List Int} {W : World} (h : Rw R n ks W) (hk : ks.length < n) (m : Int) : Rw R n (ks ++ [m]) (W.setCell ⟨R, ks.length, none⟩ (.int .i64 m)) := by
  obtain ⟨cur, h1, h2, h3, h4⟩ := h
  refine ⟨cur.setIfInBounds ks.length (.int .i64 m), heap_set _ h1, by simpa using h2, by simp; omega, fun i hi => ?_⟩
  rw [List.length_append, List.length_singleton] at hi
  rw [Array.getElem?_setIfInBounds]
  by_cases c : ks.length = i
  · subst c
    rw [if_pos rfl, if_pos (by omega)]
    simp
  · rw [if_neg c, h4 i (by omega), List.getElem_append_left (by omega)]
theorem Rw.is {R n : Nat} {ks : List Int} {W : World} (h : Rw R n ks W) (hk : ks.length = n) (ho : Oki ks) : Is W (.slice (some ⟨R, 0, none⟩) n n) ks := by
  have hl := h.lt
  obtain ⟨cur, h1, h2, h3, h4⟩ := h
  refine ⟨⟨_, n, by rw [ic_len, hk], by rw [ic_len, hk]; exact Nat.le_refl _, Or.inr ⟨R, 0, rfl, hl, fun i u hu => ?_⟩⟩, ho⟩
  have hi : i < ks.length := by rw [← ic_len]; exact (List.getElem?_eq_some_iff.1 hu).1
  rw [ic_at hi] at hu
  rw [← Option.some.inj hu]
  simp [World.cell?, h1, h4 i hi]
/-- What list answers. -/
def ListSays (g : Nat) (bs : List UInt8) (w : World) (e : Ending) (w' : World) : Prop :=
  Below g w w' ∧ ((∃ l u, Lok l ∧ bs = lb l ∧ e = .returned (.tuple #[u, .int .i64 0]) ∧ Is w' u l) ∨ (NoL bs ∧ e = .returned (.tuple #[.slice none 0 0, .int .i64 7])))
/-- What a panic of the reader leaves to the door. -/
def Fell (g : Nat) (bs : List UInt8) (w : World) (c : List PanicEntry) (W : World) : Prop := c = [{ v := .iface 25 (.int .i64 7), recovered := false }] ∧ NoL bs ∧ ∃ x y, Ld g w W x y
theorem fell_door {g : Nat} {bs : List UInt8} {w : World} {Q : Exit → Act → World → Prop} (hg : g < w.heap.size) (c : List PanicEntry) (a : Act) (W : World) (h : Calm w.heap.size (w.heap.size + 1) (Fell g bs w) Q (.panic c) a W) : bodyPostD Tryd.prog Tryd.f28 (ListSays g bs w) (.panic c) a W := by
  obtain ⟨tmps, defers⟩ := a
  obtain ⟨h1, h2, h3, rfl, h4, x, y, LX⟩ := h
  simp only at h1 h2 h3
  subst h1
  refine door_bang w.heap.size (w.heap.size + 1) _ _ _ _ h2 h3 LX.l LX.fl LX.e LX.fe (by omega) ?_
  exact ⟨((LX.setL hg _).setE hg _).low, Or.inr ⟨h4, rfl⟩⟩
set_option maxHeartbeats 4000000 in
theorem c_list (g : Nat) (v : Value) (bs : List UInt8) (w : World) (hr : Rs g v 0 w) (hx : Bx g w v bs) (hl : bs.length ≤ 1000000) : Calls Tryd.prog 28 #[.pointer (some ⟨g, 0, none⟩)] w (ListSays g bs w) := by
  have hmf : ∀ (fn : Fn) (first cap : Array Value) (w : World), (Instr.makeFunc fn first cap).run Tryd.prog w = .ok (.func fn first cap) w := fun _ _ _ _ => rfl
  have hg := hr.lt
  obtain ⟨va, vc, rfl, _⟩ := hx.1.shape
  have GA : Grew w ((w.alloc (.cells #[.slice none 0 0] 22)).alloc (.cells #[.int .i64 0] 25)) := ((Grew.refl w).alloc _ _).alloc _ _
  have LD0 := Lib.hid (Ld.new hg (.slice none 0 0) (.int .i64 0) 22 25)
  have RS0 : Rs g (.slice va bs.length vc) 0 ((w.alloc (.cells #[.slice none 0 0] 22)).alloc (.cells #[.int .i64 0] 25)) := hr.grew GA
  have BX0 : Bx g ((w.alloc (.cells #[.slice none 0 0] 22)).alloc (.cells #[.int .i64 0] 25)) (.slice va bs.length vc) bs := ⟨hx.1.grew GA, hx.2⟩
  have CO := Lib.hid (c_count g _ 0 bs _ RS0 BX0 (Nat.zero_le _) hl)
  have BXL : ∀ W x y, Ld g w W x y → Bx g W (.slice va bs.length vc) bs := fun W x y h => hx.below h.low
  clear RS0 BX0 hr GA
  go_enter_defers Tryd.func28, Tryd.ntmps28
  go_wp2_with fail
  refine (CO.out).mono ?_
  rintro e w1 ⟨rk, ⟨n, r, hn, hd, rfl, rs⟩ | ⟨nv, he⟩⟩
  · have HD := Lib.hid hd
    have RS := Lib.hid rs
    have LD1 := Lib.hid (LD0.out.rk hg rk)
    clear hd rs
    obtain ⟨CZ, hCZ, hmk⟩ : ∃ CZ : Array Value, CZ.size = n ∧ ∀ W, (Instr.makeSlice 22 (.int .i64 (n : Int)) (.int .i64 (n : Int))).run Tryd.prog W = .ok (.slice (some ⟨W.heap.size, 0, none⟩) n n) (W.alloc (.cells CZ 3)) := by
      obtain ⟨i0, hi, hz0, hz1, hz2⟩ := Dg.info_of info_int
      refine ⟨madeCells (Value.int .i64 0).cells n, size_madeCells _ _, fun W => ?_⟩
      have := run_make (P := Tryd.prog) W 22 3 i0 (.int .i64 0) Tryd.underlying22 hi hz0 .i64 .i64 n n (by omega) (Int.le_refl _) (by rw [hz2]; omega) (by omega)
      rw [hz1, Int.toNat_natCast, Nat.mul_one] at this
      exact this
    have HC := Lib.hid hCZ
    clear hCZ
    have f0 := LD1.out.l
    have f1 := LD1.out.fl
    have f2 : w.heap.size < w1.heap.size := by have := LD1.out.sz; omega
    go_wp2_with fail
    obtain ⟨R, hR⟩ : ∃ R, R = w1.heap.size := ⟨_, rfl⟩
    obtain ⟨V, hV⟩ : ∃ V, V = (w1.setCell ⟨w.heap.size, 0, none⟩ (.slice (some ⟨R, 0, none⟩) n n)).alloc (.cells CZ 3) := ⟨_, rfl⟩
    have PB : Hid ((ib (n : Int)).length ≤ bs.length ∧ bs = ib (n : Int) ++ (il [] ++ bs.drop (ib (n : Int)).length)) := Lib.hid (by
      have h := HD.out
      rw [List.drop_zero] at h
      refine ⟨by rw [h, List.length_append]; omega, ?_⟩
      rw [il_nil, List.nil_append, h, List.drop_left])
    have gR : Hid (w.heap.size + 1 < R) := Lib.hid (by rw [hR]; exact LD1.out.sz)
    have LD2 : Hid (Ld g w V (.slice (some ⟨R, 0, none⟩) n n) (.int .i64 0)) := Lib.hid (by rw [hV]; exact (LD1.out.setL hg _).grew hg ((Grew.refl _).alloc _ _))
    have RS2 : Hid (Rs g (.slice va bs.length vc) (ib (n : Int)).length V) := Lib.hid (by rw [hV]; have := (RS.out.other (b := w.heap.size) (o := 0) (by omega) (.slice (some ⟨R, 0, none⟩) n n)).grew ((Grew.refl _).alloc CZ 3); rwa [Nat.zero_add] at this)
    have RW2 : Hid (Rw R n [] V) := Lib.hid (by
      rw [hV, hR]
      refine ⟨CZ, ?_, HC.out, Nat.zero_le _, fun i hi => by cases hi⟩
      have := heap_alloc_new (w1.setCell ⟨w.heap.size, 0, none⟩ (.slice (some ⟨w1.heap.size, 0, none⟩) n n)) (.cells CZ 3)
      rwa [World.size_setCell] at this)
    have BX2 : Hid (∀ W, Ld g w W (.slice (some ⟨R, 0, none⟩) n n) (.int .i64 0) → Bx g W (.slice va bs.length vc) bs) := Lib.hid (fun W h => BXL W (.slice (some ⟨R, 0, none⟩) n n) (.int .i64 0) h)
    rw [← hR, ← hV]
    clear hR hV f0 f1 f2 RS LD1 HC hmk hmf rk
    go_loopw [11] (fun i wr => ∃ ks : List Int, i = .int .i64 ks.length ∧ ks.length ≤ n ∧ Hid (Oki ks ∧ ∃ p, p ≤ bs.length ∧ bs = ib (n : Int) ++ (il ks ++ bs.drop p) ∧ Rs g (.slice va bs.length vc) p wr) ∧ Hid (Ld g w wr (.slice (some ⟨R, 0, none⟩) n n) (.int .i64 0)) ∧ Hid (Rw R n ks wr)) (fun i _ => n - (intOf i).toNat)
    case atStart => exact ⟨[], rfl, Nat.zero_le _, Lib.hid ⟨fun m hm => (by cases hm), (ib (n : Int)).length, PB.out.1, PB.out.2, RS2.out⟩, LD2, RW2⟩
    case round =>
      obtain ⟨ks, rfl, hk, PP, LD, RW⟩ := hrel
      clear LD2 RS2 RW2 CO LD0
      by_cases hlt : ks.length < n
      · have i0 : (0 : Int) ≤ (ks.length : Int) := by omega
        have i1 : (ks.length : Int) < (n : Int) := by omega
        have f0 := LD.out.l
        obtain ⟨ok, p, hp, hb, rs⟩ := PP.out
        have NU := Lib.hid (c_number g (.slice va bs.length vc) p bs wr.drew (rs.grew ((Grew.refl wr).drew)) (BX2.out _ (LD.out.grew hg ((Grew.refl wr).drew))) hp hl)
        have LDW := Lib.hid (LD.out.grew hg ((Grew.refl wr).drew))
        have RWW : Hid (Rw R n ks wr.drew) := Lib.hid RW.out
        have OK := Lib.hid ok
        have HB := Lib.hid hb
        have HP := Lib.hid hp
        have IO := Lib.hid (fun u W (h : u < 18446744073709551616) => c_integerOf u W h)
        have gR1 : ¬ w.heap.size = R := by have := gR.out; omega
        have gR2 : ¬ R = w.heap.size := by have := gR.out; omega
        clear ok hb rs PP RW LD hp
        go_wp2_with fail
        refine wp_calm (L := w.heap.size) (E := w.heap.size + 1) (R' := Fell g bs w) (fun c a W h => fell_door hg c a W h) ?_
        refine wp_region_held_drew (S := (fun W => W.cell? ⟨w.heap.size, 0, none⟩ = some (.slice (some ⟨R, 0, none⟩) n n))) (by kernel_rfl) (by simp [go_sem, *]) (fun hHeld => ?_)
        refine wpAnyH_take (i := 0) (oi := ⟨(some 14), _, _, _, _, _⟩) (v := ?_) rfl (by kernel_rfl) (by kernel_rfl) (by kernel_rfl) (fun _ _ _ h => calm_put (by decide) (by decide) h) (Or.inl ⟨by rfl, ?_⟩) (by assumption) ?_
        rotate_left
        · intro w hSw; (try dsimp only at hSw); go_simp; (try with_reducible rfl)
        try simp only [Act.put, List.setIfInBounds_toArray, List.set_cons_zero, List.set_cons_succ]
        refine wpAnyH_take (i := 1) (oi := ⟨(some 15), _, _, _, _, _⟩) (v := ?_) rfl (by kernel_rfl) (by kernel_rfl) (by kernel_rfl) (fun _ _ _ h => calm_put (by decide) (by decide) h) (Or.inl ⟨by rfl, ?_⟩) (by assumption) ?_
        rotate_left
        · intro w hSw; (try dsimp only at hSw); go_simp; (try with_reducible rfl)
        try simp only [Act.put, List.setIfInBounds_toArray, List.set_cons_zero, List.set_cons_succ]
        refine wpAnyH_take (i := 2) (oi := ⟨(some 16), _, _, _, _, _⟩) (v := ?_) rfl (by kernel_rfl) (by kernel_rfl) (by kernel_rfl) (fun _ _ _ h => calm_put (by decide) (by decide) h) (Or.inl ⟨by rfl, ?_⟩) (by assumption) ?_
        rotate_left
        · intro w hSw; (try dsimp only at hSw); go_simp; (try with_reducible rfl)
        try simp only [Act.put, List.setIfInBounds_toArray, List.set_cons_zero, List.set_cons_succ]
        refine wpAnyH_ready (rs := [3]) (by kernel_rfl) (by simp) ?_
        refine AllReadyH.cons (o := ⟨(some 17), _, _, _, _, _⟩) rfl (fun K hK => ?_) AllReadyH.nil
        go_simp
        refine (NU.out).mono ?_
        rintro e w3 ⟨rk3, ⟨u, r, hu, hd, rfl, rs3⟩ | ⟨nv, he⟩⟩
        · have LD3 := Lib.hid (LDW.out.rk hg rk3)
          have RW3 := Lib.hid (RWW.out.rk (show R ≠ g by have := gR.out; omega) rk3)
          have RS3 := Lib.hid rs3
          have HD3 := Lib.hid hd
          have UO := Lib.hid (unum_ok hu)
          have IO1 := Lib.hid (fun W => IO.out u W hu)
          obtain ⟨m, hm⟩ : ∃ m, m = unum u := ⟨_, rfl⟩
          have UN : Hid (num m = u) := Lib.hid (by rw [hm, num_unum])
          rw [← hm] at UO IO1
          clear hm hu rs3 hd rk3
          have f3 := LD3.out.l
          obtain ⟨⟨q, q0⟩, q1⟩ := RW3.out.there hlt
          go_wp2_with fail
          refine hK.out _ _ (by (try dsimp only); simp [go_sem, *]) (fun h1 => ?_)
          clear hK K hHeld
          have hHeld := h1
          clear h1
          try simp only [Act.put, List.setIfInBounds_toArray, List.set_cons_zero, List.set_cons_succ]
          refine wpAnyH_ready (rs := [4]) (by kernel_rfl) (by simp) ?_
          refine AllReadyH.cons (o := ⟨(some 18), _, _, _, _, _⟩) rfl (fun K hK => ?_) AllReadyH.nil
          go_simp
          refine (IO1.out _).mono ?_
          rintro e w4 ⟨rfl, rfl⟩
          go_wp2_with fail
          refine hK.out _ _ (by (try dsimp only); simp [go_sem, *]) (fun h1 => ?_)
          clear hK K hHeld
          have hHeld := h1
          clear h1
          try simp only [Act.put, List.setIfInBounds_toArray, List.set_cons_zero, List.set_cons_succ]
          refine wpAnyH_take (i := 5) (oi := ⟨(some 19), _, _, _, _, _⟩) (v := ?_) rfl (by kernel_rfl) (by kernel_rfl) (by kernel_rfl) (fun _ _ _ h => calm_put (by decide) (by decide) h) (Or.inl ⟨by rfl, ?_⟩) (by assumption) ?_
          rotate_left
          · intro w hSw; (try dsimp only at hSw); go_simp; (try with_reducible rfl)
          try simp only [Act.put, List.setIfInBounds_toArray, List.set_cons_zero, List.set_cons_succ]
          refine wpAnyH_ready (rs := [6]) (by kernel_rfl) (by simp) ?_
          refine AllReadyH.cons (o := ⟨none, _, _, _, _, _⟩) rfl (fun K hK => ?_) AllReadyH.nil
          go_simp
          refine hK.out _ _ (by (try dsimp only); simp [go_sem, *]) (fun h1 => ?_)
          clear hK K hHeld
          have hHeld := h1
          clear h1
          try simp only [Act.put, List.setIfInBounds_toArray, List.set_cons_zero, List.set_cons_succ]
          refine wpAnyH_done (by kernel_rfl) (calm_normal ?_) _
          have i2 : (ks.length : Int) + 1 ≤ 9223372036854775807 := by omega
          go_wp2_with fail
          have e1 : bs.drop (p + (vb u).length) = r := by rw [← List.drop_drop, HD3.out, List.drop_left]
          have e2 : vb u = ib m := by rw [← UN.out]; rfl
          refine ⟨⟨ks ++ [m], by rw [List.length_append]; rfl, by rw [List.length_append]; exact hlt, Lib.hid ⟨?_, p + (vb u).length, ?_, ?_, ?_⟩, ?_, ?_⟩, ?_⟩
          · intro y hy
            rcases List.mem_append.1 hy with hy | hy
            · exact OK.out y hy
            · rw [List.mem_singleton.1 hy]; exact UO.out
          · have := congrArg List.length HD3.out
            rw [List.length_append, List.length_drop] at this
            have := vb_pos u
            omega
          · rw [e1, il_snoc, List.append_assoc, ← e2, ← HD3.out]
            exact HB.out
          · exact RS3.out.other (show g ≠ R by have := gR.out; omega) _
          · exact Lib.hid (LD3.out.setO hg (show w.heap.size + 1 < R from gR.out) _)
          · exact Lib.hid (RW3.out.set hlt m)
          · simp [intOf]; omega
        · have LX := LDW.out.rk hg rk3
          have NV := Lib.hid nv
          unfold bang at he
          subst he
          exact ⟨rfl, rfl, rfl, rfl, by rw [HB.out]; exact no_item hlt (no_i_of NV.out), _, _, LX⟩
      · obtain rfl : ks.length = n := by omega
        obtain ⟨ok, p, hp, hb, rs⟩ := PP.out
        have r1 := rs.bytes
        have r2 := rs.pos
        have LDW := Lib.hid (LD.out.grew hg ((Grew.refl wr).drew))
        have RWH := Lib.hid RW.out
        have LDH := Lib.hid LD.out
        have OK := Lib.hid ok
        have HB := Lib.hid hb
        have f0 := LD.out.l
        have f1 := LD.out.fl
        have f2 := LD.out.e
        have f3 := LD.out.fe
        have i0 : ¬ (ks.length : Int) < (ks.length : Int) := by omega
        have MT := Lib.hid (fun W => c_must W)
        have MN := Lib.hid (fun W => c_must_no W)
        clear ok hb rs PP RW LD hk hlt
        by_cases hpe : p = bs.length
        · have pe : ((p : Int) == (bs.length : Int)) = true := by rw [beq_iff_eq]; omega
          have HP := Lib.hid hpe
          clear hpe hp
          go_wp2_with fail
          refine wp_calm (L := w.heap.size) (E := w.heap.size + 1) (R' := Fell g bs w) (fun c a W h => fell_door hg c a W h) ?_
          refine wp_region_held_drew (S := (fun W => W.cell? ⟨g, 0, none⟩ = some (.slice va bs.length vc) ∧ W.cell? ⟨g, 1, none⟩ = some (.int .i64 p))) (by kernel_rfl) (by simp [go_sem, *]) (fun hHeld => ?_)
          refine wpAnyH_take (i := 0) (oi := ⟨(some 21), _, _, _, _, _⟩) (v := ?_) rfl (by kernel_rfl) (by kernel_rfl) (by kernel_rfl) (fun _ _ _ h => calm_put (by decide) (by decide) h) (Or.inl ⟨by rfl, ?_⟩) (by assumption) ?_
          rotate_left
          · intro w hSw; (try dsimp only at hSw); go_simp; (try with_reducible rfl)
          try simp only [Act.put, List.setIfInBounds_toArray, List.set_cons_zero, List.set_cons_succ]
          refine wpAnyH_take (i := 1) (oi := ⟨(some 22), _, _, _, _, _⟩) (v := ?_) rfl (by kernel_rfl) (by kernel_rfl) (by kernel_rfl) (fun _ _ _ h => calm_put (by decide) (by decide) h) (Or.inl ⟨by rfl, ?_⟩) (by assumption) ?_
          rotate_left
          · intro w hSw; (try dsimp only at hSw); go_simp; (try with_reducible rfl)
          try simp only [Act.put, List.setIfInBounds_toArray, List.set_cons_zero, List.set_cons_succ]
          refine wpAnyH_take (i := 2) (oi := ⟨(some 23), _, _, _, _, _⟩) (v := ?_) rfl (by kernel_rfl) (by kernel_rfl) (by kernel_rfl) (fun _ _ _ h => calm_put (by decide) (by decide) h) (Or.inl ⟨by rfl, ?_⟩) (by assumption) ?_
          rotate_left
          · intro w hSw; (try dsimp only at hSw); go_simp; (try with_reducible rfl)
          try simp only [Act.put, List.setIfInBounds_toArray, List.set_cons_zero, List.set_cons_succ]
          refine wpAnyH_take (i := 3) (oi := ⟨(some 24), _, _, _, _, _⟩) (v := ?_) rfl (by kernel_rfl) (by kernel_rfl) (by kernel_rfl) (fun _ _ _ h => calm_put (by decide) (by decide) h) (Or.inl ⟨by rfl, ?_⟩) (by assumption) ?_
          rotate_left
          · intro w hSw; (try dsimp only at hSw); go_simp; (try with_reducible rfl)
          try simp only [Act.put, List.setIfInBounds_toArray, List.set_cons_zero, List.set_cons_succ]
          refine wpAnyH_take (i := 4) (oi := ⟨(some 25), _, _, _, _, _⟩) (v := ?_) rfl (by kernel_rfl) (by kernel_rfl) (by kernel_rfl) (fun _ _ _ h => calm_put (by decide) (by decide) h) (Or.inl ⟨by rfl, ?_⟩) (by assumption) ?_
          rotate_left
          · intro w hSw; (try dsimp only at hSw); go_simp; (try with_reducible rfl)
          try simp only [Act.put, List.setIfInBounds_toArray, List.set_cons_zero, List.set_cons_succ]
          refine wpAnyH_take (i := 5) (oi := ⟨(some 26), _, _, _, _, _⟩) (v := ?_) rfl (by kernel_rfl) (by kernel_rfl) (by kernel_rfl) (fun _ _ _ h => calm_put (by decide) (by decide) h) (Or.inl ⟨by rfl, ?_⟩) (by assumption) ?_
          rotate_left
          · intro w hSw; (try dsimp only at hSw); go_simp; (try with_reducible rfl)
          try simp only [Act.put, List.setIfInBounds_toArray, List.set_cons_zero, List.set_cons_succ]
          refine wpAnyH_take (i := 6) (oi := ⟨(some 27), _, _, _, _, _⟩) (v := ?_) rfl (by kernel_rfl) (by kernel_rfl) (by kernel_rfl) (fun _ _ _ h => calm_put (by decide) (by decide) h) (Or.inl ⟨by rfl, ?_⟩) (by assumption) ?_
          rotate_left
          · intro w hSw; (try dsimp only at hSw); go_simp; (try with_reducible rfl)
          try simp only [Act.put, List.setIfInBounds_toArray, List.set_cons_zero, List.set_cons_succ]
          refine wpAnyH_take (i := 7) (oi := ⟨(some 28), _, _, _, _, _⟩) (v := ?_) rfl (by kernel_rfl) (by kernel_rfl) (by kernel_rfl) (fun _ _ _ h => calm_put (by decide) (by decide) h) (Or.inl ⟨by rfl, ?_⟩) (by assumption) ?_
          rotate_left
          · intro w hSw; (try dsimp only at hSw); go_simp; (try with_reducible rfl)
          try simp only [Act.put, List.setIfInBounds_toArray, List.set_cons_zero, List.set_cons_succ]
          refine wpAnyH_take (i := 8) (oi := ⟨(some 29), _, _, _, _, _⟩) (v := ?_) rfl (by kernel_rfl) (by kernel_rfl) (by kernel_rfl) (fun _ _ _ h => calm_put (by decide) (by decide) h) (Or.inl ⟨by rfl, ?_⟩) (by assumption) ?_
          rotate_left
          · intro w hSw; (try dsimp only at hSw); go_simp; (try with_reducible rfl)
          try simp only [Act.put, List.setIfInBounds_toArray, List.set_cons_zero, List.set_cons_succ]
          refine wpAnyH_take (i := 9) (oi := ⟨(some 30), _, _, _, _, _⟩) (v := ?_) rfl (by kernel_rfl) (by kernel_rfl) (by kernel_rfl) (fun _ _ _ h => calm_put (by decide) (by decide) h) (Or.inl ⟨by rfl, ?_⟩) (by assumption) ?_
          rotate_left
          · intro w hSw; (try dsimp only at hSw); go_simp; (try with_reducible rfl)
          try simp only [Act.put, List.setIfInBounds_toArray, List.set_cons_zero, List.set_cons_succ]
          refine wpAnyH_ready (rs := [10]) (by kernel_rfl) (by simp) ?_
          refine AllReadyH.cons (o := ⟨(some 31), _, _, _, _, _⟩) rfl (fun K hK => ?_) AllReadyH.nil
          go_simp
          refine (MT.out _).mono ?_
          rintro e w4 ⟨rfl, rfl⟩
          go_wp2_with fail
          refine hK.out _ _ (by (try dsimp only); simp [go_sem, *]) (fun h1 => ?_)
          clear hK K hHeld
          have hHeld := h1
          clear h1
          try simp only [Act.put, List.setIfInBounds_toArray, List.set_cons_zero, List.set_cons_succ]
          refine wpAnyH_done (by kernel_rfl) (calm_normal ?_) _
          go_wp2_with fail
          have LD9 := ((LDH.out.setL hg (.slice (some ⟨R, 0, none⟩) ks.length ks.length)).setE hg (.int .i64 0)).grew hg ((Grew.refl _).drew)
          have RW9 : Rw R ks.length ks ((wr.setCell ⟨w.heap.size, 0, none⟩ (.slice (some ⟨R, 0, none⟩) ks.length ks.length)).setCell ⟨w.heap.size + 1, 0, none⟩ (.int .i64 0)).drew := (RWH.out.other (show R ≠ w.heap.size by have := gR.out; omega) _).other (show R ≠ w.heap.size + 1 by have := gR.out; omega) _
          refine door_idle w.heap.size (w.heap.size + 1) _ _ _ _ rfl rfl LD9.l LD9.e ⟨LD9.low, Or.inl ⟨ks, _, ⟨hn, OK.out⟩, ?_, rfl, RW9.is rfl OK.out⟩⟩
          have := HB.out
          rw [HP.out, List.drop_length, List.append_nil] at this
          exact this
        · have pe : ((p : Int) == (bs.length : Int)) = false := by rw [beq_eq_false_iff_ne]; omega
          have HP := Lib.hid (show p < bs.length by omega)
          clear hpe hp
          go_wp2_with fail
          refine wp_calm (L := w.heap.size) (E := w.heap.size + 1) (R' := Fell g bs w) (fun c a W h => fell_door hg c a W h) ?_
          refine wp_region_held_drew (S := (fun W => W.cell? ⟨g, 0, none⟩ = some (.slice va bs.length vc) ∧ W.cell? ⟨g, 1, none⟩ = some (.int .i64 p))) (by kernel_rfl) (by simp [go_sem, *]) (fun hHeld => ?_)
          refine wpAnyH_take (i := 0) (oi := ⟨(some 21), _, _, _, _, _⟩) (v := ?_) rfl (by kernel_rfl) (by kernel_rfl) (by kernel_rfl) (fun _ _ _ h => calm_put (by decide) (by decide) h) (Or.inl ⟨by rfl, ?_⟩) (by assumption) ?_
          rotate_left
          · intro w hSw; (try dsimp only at hSw); go_simp; (try with_reducible rfl)
          try simp only [Act.put, List.setIfInBounds_toArray, List.set_cons_zero, List.set_cons_succ]
          refine wpAnyH_take (i := 1) (oi := ⟨(some 22), _, _, _, _, _⟩) (v := ?_) rfl (by kernel_rfl) (by kernel_rfl) (by kernel_rfl) (fun _ _ _ h => calm_put (by decide) (by decide) h) (Or.inl ⟨by rfl, ?_⟩) (by assumption) ?_
          rotate_left
          · intro w hSw; (try dsimp only at hSw); go_simp; (try with_reducible rfl)
          try simp only [Act.put, List.setIfInBounds_toArray, List.set_cons_zero, List.set_cons_succ]
          refine wpAnyH_take (i := 2) (oi := ⟨(some 23), _, _, _, _, _⟩) (v := ?_) rfl (by kernel_rfl) (by kernel_rfl) (by kernel_rfl) (fun _ _ _ h => calm_put (by decide) (by decide) h) (Or.inl ⟨by rfl, ?_⟩) (by assumption) ?_
          rotate_left
          · intro w hSw; (try dsimp only at hSw); go_simp; (try with_reducible rfl)
          try simp only [Act.put, List.setIfInBounds_toArray, List.set_cons_zero, List.set_cons_succ]
          refine wpAnyH_take (i := 3) (oi := ⟨(some 24), _, _, _, _, _⟩) (v := ?_) rfl (by kernel_rfl) (by kernel_rfl) (by kernel_rfl) (fun _ _ _ h => calm_put (by decide) (by decide) h) (Or.inl ⟨by rfl, ?_⟩) (by assumption) ?_
          rotate_left
          · intro w hSw; (try dsimp only at hSw); go_simp; (try with_reducible rfl)
          try simp only [Act.put, List.setIfInBounds_toArray, List.set_cons_zero, List.set_cons_succ]
          refine wpAnyH_take (i := 4) (oi := ⟨(some 25), _, _, _, _, _⟩) (v := ?_) rfl (by kernel_rfl) (by kernel_rfl) (by kernel_rfl) (fun _ _ _ h => calm_put (by decide) (by decide) h) (Or.inl ⟨by rfl, ?_⟩) (by assumption) ?_
          rotate_left
          · intro w hSw; (try dsimp only at hSw); go_simp; (try with_reducible rfl)
          try simp only [Act.put, List.setIfInBounds_toArray, List.set_cons_zero, List.set_cons_succ]
          refine wpAnyH_take (i := 5) (oi := ⟨(some 26), _, _, _, _, _⟩) (v := ?_) rfl (by kernel_rfl) (by kernel_rfl) (by kernel_rfl) (fun _ _ _ h => calm_put (by decide) (by decide) h) (Or.inl ⟨by rfl, ?_⟩) (by assumption) ?_
          rotate_left
          · intro w hSw; (try dsimp only at hSw); go_simp; (try with_reducible rfl)
          try simp only [Act.put, List.setIfInBounds_toArray, List.set_cons_zero, List.set_cons_succ]
          refine wpAnyH_take (i := 6) (oi := ⟨(some 27), _, _, _, _, _⟩) (v := ?_) rfl (by kernel_rfl) (by kernel_rfl) (by kernel_rfl) (fun _ _ _ h => calm_put (by decide) (by decide) h) (Or.inl ⟨by rfl, ?_⟩) (by assumption) ?_
          rotate_left
          · intro w hSw; (try dsimp only at hSw); go_simp; (try with_reducible rfl)
          try simp only [Act.put, List.setIfInBounds_toArray, List.set_cons_zero, List.set_cons_succ]
          refine wpAnyH_take (i := 7) (oi := ⟨(some 28), _, _, _, _, _⟩) (v := ?_) rfl (by kernel_rfl) (by kernel_rfl) (by kernel_rfl) (fun _ _ _ h => calm_put (by decide) (by decide) h) (Or.inl ⟨by rfl, ?_⟩) (by assumption) ?_
          rotate_left
          · intro w hSw; (try dsimp only at hSw); go_simp; (try with_reducible rfl)
          try simp only [Act.put, List.setIfInBounds_toArray, List.set_cons_zero, List.set_cons_succ]
          refine wpAnyH_take (i := 8) (oi := ⟨(some 29), _, _, _, _, _⟩) (v := ?_) rfl (by kernel_rfl) (by kernel_rfl) (by kernel_rfl) (fun _ _ _ h => calm_put (by decide) (by decide) h) (Or.inl ⟨by rfl, ?_⟩) (by assumption) ?_
          rotate_left
          · intro w hSw; (try dsimp only at hSw); go_simp; (try with_reducible rfl)
          try simp only [Act.put, List.setIfInBounds_toArray, List.set_cons_zero, List.set_cons_succ]
          refine wpAnyH_take (i := 9) (oi := ⟨(some 30), _, _, _, _, _⟩) (v := ?_) rfl (by kernel_rfl) (by kernel_rfl) (by kernel_rfl) (fun _ _ _ h => calm_put (by decide) (by decide) h) (Or.inl ⟨by rfl, ?_⟩) (by assumption) ?_
          rotate_left
          · intro w hSw; (try dsimp only at hSw); go_simp; (try with_reducible rfl)
          try simp only [Act.put, List.setIfInBounds_toArray, List.set_cons_zero, List.set_cons_succ]
          refine wpAnyH_ready (rs := [10]) (by kernel_rfl) (by simp) ?_
          refine AllReadyH.cons (o := ⟨(some 31), _, _, _, _, _⟩) rfl (fun K hK => ?_) AllReadyH.nil
          go_simp
          refine (MN.out _).mono ?_
          rintro e w4 ⟨he, rfl⟩
          unfold bang at he
          subst he
          refine ⟨rfl, rfl, rfl, rfl, ?_, _, _, LDW.out⟩
          rw [HB.out, ← List.append_assoc]
          exact no_more (fun e => by have := congrArg List.length e; rw [List.length_drop, List.length_nil] at this; have := HP.out; omega)
  · have LX := LD0.out.rk hg rk
    have NV := Lib.hid nv
    unfold bang at he
    subst he
    refine door_bang w.heap.size (w.heap.size + 1) _ _ _ _ rfl rfl LX.l LX.fl LX.e LX.fe (by omega) ?_
    exact ⟨((LX.setL hg _).setE hg _).low, Or.inr ⟨NV.out, rfl⟩⟩
/-- What Get answers. -/
def GetSays (bs : List UInt8) (w : World) (e : Ending) (w' : World) : Prop :=
  Grew w w' ∧ ((∃ l u, Lok l ∧ bs = lb l ∧ e = .returned (.tuple #[u, .int .i64 0]) ∧ Is w' u l) ∨ (NoL bs ∧ e = .returned (.tuple #[.slice none 0 0, .int .i64 7])))
set_option maxHeartbeats 4000000 in
theorem c_get (v : Value) (bs : List UInt8) (w : World) (hx : Bs w v bs) (hl : bs.length ≤ 1000000) : Calls Tryd.prog 15 #[v] w (GetSays bs w) := by
  obtain ⟨a, c, rfl, _⟩ := hx.shape
  have G0 : Grew w (w.alloc (.cells #[.slice a bs.length c, .int .i64 0] 54)) := (Grew.refl w).alloc _ _
  have R0 : Rs w.heap.size (.slice a bs.length c) 0 (w.alloc (.cells #[.slice a bs.length c, .int .i64 0] 54)) := by
    refine ⟨by simp, ?_, ?_, ?_⟩ <;> simp [go_sem]
  have LI := Lib.hid (c_list w.heap.size (.slice a bs.length c) bs _ R0 ⟨hx.grew G0, fun h0 b o n c' e => by
    cases e
    obtain ⟨b', o', e', hb, _⟩ := hx.row h0
    cases e'
    exact hb⟩ hl)
  clear R0 hx
  go_enter Tryd.func15, Tryd.ntmps15
  go_wp2_with fail
  refine (LI.out).mono ?_
  rintro e w1 ⟨lo, ⟨l, u, ok, hb, rfl, is⟩ | ⟨nl, rfl⟩⟩
  · have OK := Lib.hid ok
    have HB := Lib.hid hb
    have IS := Lib.hid is
    clear ok hb is
    go_wp2_with fail
    go_ret2
    exact ⟨Below.trans G0 lo, Or.inl ⟨l, u, OK.out, HB.out, rfl, IS.out⟩⟩
  · have NL := Lib.hid nl
    clear nl
    go_wp2_with fail
    go_ret2
    exact ⟨Below.trans G0 lo, Or.inr ⟨NL.out, rfl⟩⟩
end Co
end Go.Proofs.YtljmdpjjieoedaaDoor
