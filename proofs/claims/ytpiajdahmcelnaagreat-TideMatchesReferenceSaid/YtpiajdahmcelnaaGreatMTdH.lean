/-
  The landed package tide: the least span of all that is ranged over.
-/
import Derived.Test.YtpiajdahmcelnaaGreatMTdG
import Derived.Test.YtpiajdahmcelnaaGreatMSpgJ
import Derived.Test.YtpiajdahmcelnaaGreatMHullBar
namespace Go.Proofs.YtpiajdahmcelnaaGreat
open Go.RowKit Hl
attribute [local go_sem] Oper.semAt_some
namespace Td
set_option maxRecDepth 100000

/-- The least span of the spans of all elements. -/
def js (s t : Int × Int) : Int × Int := (min s.1 t.1, max s.2 t.2)
def sj (p : Fw → Int × Int) : List Fw → Int × Int
  | [] => (0, 0)
  | f :: r => r.foldl (fun s g => js s (p (fit g))) (p (fit f))
theorem sj_one (p : Fw → Int × Int) (f : Fw) : sj p ([] ++ [f]) = p (fit f) := rfl
theorem sj_more (p : Fw → Int × Int) (l : List Fw) (f : Fw) (h : l ≠ []) : sj p (l ++ [f]) = js (sj p l) (p (fit f)) := by
  cases l with
  | nil => exact absurd rfl h
  | cons g r =>
    show (r ++ [f]).foldl (fun s g => js s (p (fit g))) (p (fit g)) = _
    rw [List.foldl_append]
    rfl
def Sok (s : Int × Int) : Prop := -5000 ≤ s.1 ∧ s.1 ≤ s.2 ∧ s.2 ≤ 5000
theorem js_ok {s t : Int × Int} (h : Sok s) (k : Sok t) : Sok (js s t) := by
  unfold Sok js at *
  simp only
  omega
theorem sj_ok {p : Fw → Int × Int} (hp : ∀ f, Sok (p (fit f))) : ∀ l, Sok (sj p l)
  | [] => by unfold Sok sj; simp
  | f :: r => by
    show Sok (r.foldl (fun s g => js s (p (fit g))) (p (fit f)))
    have : ∀ (l : List Fw) (s : Int × Int), Sok s → Sok (l.foldl (fun s g => js s (p (fit g))) s) := by
      intro l
      induction l with
      | nil => exact fun s h => h
      | cons g l ih => exact fun s h => ih _ (js_ok h (hp g))
    exact this r _ (hp f)
theorem keepsF {B : Nat} {W W' : World} {row : Option Nat} (hg : W.grownBy W' row) (h : ∀ r, row = some r → ∃ cs t f, W.heap[r]? = some (.cells cs t f)) : KeepsFrom B W W' :=
  (KeepsOthers.of_grownBy hg (fun j o e ho => by
    obtain ⟨cs, t, f, hk⟩ := h j e
    rw [hk] at ho
    cases ho
    rfl)).from B
theorem join_c (a b c d : Int) (w : World) (h : (-5000 ≤ a ∧ a ≤ b ∧ b ≤ 5000) ∧ (-5000 ≤ c ∧ c ≤ d ∧ d ≤ 5000)) : Calls Tryz.prog 51 #[.agg #[.int .i64 a, .int .i64 b], .agg #[.int .i64 c, .int .i64 d]] w fun e w' => e = .returned (.tuple #[.agg #[.int .i64 (min a c), .int .i64 (max b d)], .int .i64 0]) ∧ Grew w w' := by
  have := Sg.spJoin_ok a b c d w (by unfold Sg.Vd; omega)
  rwa [Sg.mn_min, Sg.mx_max] at this
theorem blkN {W : World} {cs : Array Value} {t : TypeId} {k : Nat} (h : W.heap.size = k) : Blk (W.alloc (.cells cs t)) k cs t := by
  subst h
  exact Blk.new W cs t
theorem Blk.keepPut {W : World} {B : Nat} {cs : Array Value} {t : TypeId} (h : Blk W B cs t) (D : Nat) (o : Obj) (hne : B ≠ D) : Blk (W.putObj D o) B cs t := (World.putObj_heap_other (by omega)).trans h
theorem blkAt {W : World} {B i : Nat} {cs : Array Value} {t : TypeId} {v : Value} (h : Blk W B cs t) (hi : cs[i]? = some v) : W.cell? ⟨B, i, none⟩ = some v := by
  simp [World.cell?, show W.heap[B]? = _ from h, hi]
set_option maxHeartbeats 16000000 in
theorem joined_c (g : Nat) (eg : ∀ args w, (callFunc g args).run Tryz.prog w = .ok (.enter g args) w) (p : Fw → Int × Int) (hp : ∀ f, Sok (p (fit f)))
    (hc : ∀ (f : Fw) (W : World), Calls Tryz.prog g #[.agg #[.int .i64 f.x, .int .i64 f.y, .int .i64 f.s, .int .i64 f.k.a, .int .i64 f.k.b, .int .i64 f.k.c, .int .i64 f.k.d, .int .i64 f.k.e, .int .i64 f.k.f]] W fun e w' => e = .returned (.agg #[.int .i64 (p f).1, .int .i64 (p f).2]) ∧ Grew W w')
    (lb : Array Value) (xs : List Fw) (w : World) (hq : SeqStopsK Fence.wide 4 Tryz.prog 48 lb encF (Below w.heap.size) (fun ys => ys = xs) (fun _ => True) 4002 w) :
    Calls Tryz.prog 32 #[.func (.func 48) #[] lb, .func (.func g) #[] #[]] w fun e w' => e = .returned (.agg #[.int .i64 (sj p xs).1, .int .i64 (sj p xs).2]) ∧ Grew w w' := by
  have HP := Lib.hid hp
  have HC := Lib.hid hc
  have HQ := Lib.hid hq
  clear hp hc hq
  refine (callsIn_wide (n := 5)).1 ?_
  refine callsIn_of_wp_marks Tryz.func32 rfl trivial ?_ rfl
  simp only [Tryz.ntmps32, List.size_toArray, List.length_cons, List.length_nil, Nat.reduceAdd, Nat.reduceSub, Array.replicate_succ, Array.replicate_zero, List.push_toArray, List.append_toArray, List.nil_append, List.cons_append]
  gi_wp2_with fail
  obtain ⟨W0, hW0⟩ : ∃ W0, (((w.alloc (.cells #[.func (.func g) #[] #[]] 60)).alloc (.cells #[.int .i64 0, .int .i64 0] 23)).alloc (.cells #[.int .i64 0, .int .i64 0] 23)).alloc (.cells #[.bool false] 4) = W0 := ⟨_, rfl⟩
  have k0 : Blk W0 (w.heap.size) #[.func (.func g) #[] #[]] 60 := by rw [← hW0]; exact (((Blk.new w _ _).alloc _).alloc _).alloc _
  have k1 : Blk W0 (w.heap.size + 1) #[.int .i64 0, .int .i64 0] 23 := by rw [← hW0]; exact ((blkN (by simp)).alloc _).alloc _
  have k2 : Blk W0 (w.heap.size + 1 + 1) #[.int .i64 0, .int .i64 0] 23 := by rw [← hW0]; exact (blkN (by simp)).alloc _
  have k3 : Blk W0 (w.heap.size + 1 + 1 + 1) #[.bool false] 4 := by rw [← hW0]; exact blkN (by simp)
  have hsz : W0.heap.size = w.heap.size + 1 + 1 + 1 + 1 := by rw [← hW0]; simp
  have G0 : Below w.heap.size w W0 := by rw [← hW0]; exact ((((Grew.refl w).alloc _ _).alloc _ _).alloc _ _).alloc _ _
  rw [hW0]
  clear hW0
  refine wpIn_rangeFunc_ownH rfl (by omega) (gf := 48) (lb := lb) rfl trivial (enters_of Tryz.func48 (by kernel_rfl) rfl)
    HQ.out belowK_t (belowK_b (by omega)) G0 (fun _ => rfl)
    (fun pre W => ((Blk W (w.heap.size) #[.func (.func g) #[] #[]] 60 ∧ Blk W (w.heap.size + 1) #[.int .i64 0, .int .i64 0] 23 ∧ Blk W (w.heap.size + 1 + 1) #[.int .i64 (sj p pre).1, .int .i64 (sj p pre).2] 23 ∧ Blk W (w.heap.size + 1 + 1 + 1) #[.bool (!pre.isEmpty)] 4) ∧ W0.heap.size ≤ W.heap.size) ∧ Below w.heap.size w W)
    (fun _ _ _ => False)
    (OwnFrom.and (Own.from (fun s X Y row hs hg hr => ⟨⟨blk_own _ _ (fun _ => #[.func (.func g) #[] #[]]) s X Y row hs.1.1 hg hr, blk_own _ _ (fun _ => #[.int .i64 0, .int .i64 0]) s X Y row hs.1.2.1 hg hr, blk_own _ _ (fun s => #[.int .i64 (sj p s).1, .int .i64 (sj p s).2]) s X Y row hs.1.2.2.1 hg hr, blk_own _ _ (fun s => #[.bool (!s.isEmpty)]) s X Y row hs.1.2.2.2 hg hr⟩, Nat.le_trans hs.2 hg.size⟩) _) (ownFrom_below (Nat.le_refl _) (by omega)))
    (fun _ _ _ _ _ hs _ _ => hs)
    ⟨⟨⟨k0, k1, k2, k3⟩, Nat.le_refl _⟩, G0⟩
    (fun f a' W => ∃ Bx, w.heap.size + 1 + 1 + 1 < Bx ∧ Blk W Bx #[.int .i64 (fit f).x, .int .i64 (fit f).y, .int .i64 (fit f).s, .int .i64 (fit f).k.a, .int .i64 (fit f).k.b, .int .i64 (fit f).k.c, .int .i64 (fit f).k.d, .int .i64 (fit f).k.e, .int .i64 (fit f).k.f] 25 ∧ a' = { tmps := #[.func (.func 48) #[] lb, .func (.func g) #[] #[], undef, .pointer (some ⟨w.heap.size, 0, none⟩), .pointer (some ⟨w.heap.size + 1, 0, none⟩), .pointer (some ⟨w.heap.size + 1 + 1, 0, none⟩), .pointer (some ⟨w.heap.size + 1 + 1 + 1, 0, none⟩), .pointer (some ⟨Bx, 0, none⟩), .func (.func 48) #[] lb, .agg #[.int .i64 (fit f).x, .int .i64 (fit f).y, .int .i64 (fit f).s, .int .i64 (fit f).k.a, .int .i64 (fit f).k.b, .int .i64 (fit f).k.c, .int .i64 (fit f).k.d, .int .i64 (fit f).k.e, .int .i64 (fit f).k.f], undef, undef, undef, undef, undef, undef, undef, undef, undef, undef, undef, undef, undef], defers := [] })
    (fun f a' _ X Y row hs hg hr => by
      obtain ⟨Bx, g1, g2, g3⟩ := hs
      exact ⟨Bx, g1, blk_own _ _ (fun _ : Unit => #[.int .i64 (fit f).x, .int .i64 (fit f).y, .int .i64 (fit f).s, .int .i64 (fit f).k.a, .int .i64 (fit f).k.b, .int .i64 (fit f).k.c, .int .i64 (fit f).k.d, .int .i64 (fit f).k.e, .int .i64 (fit f).k.f]) () X Y row g2 hg (fun r e => (hr r e).2), g3⟩)
    ?assign ?body ?done ?stop
  case assign =>
    rintro l pre f W K ⟨⟨⟨g1, g2, g3, g4⟩, g5⟩, gB⟩ hK
    have hz := gB.size
    unfold encF
    gi_wp2
    have bX := Blk.new W #[.int .i64 (fit f).x, .int .i64 (fit f).y, .int .i64 (fit f).s, .int .i64 (fit f).k.a, .int .i64 (fit f).k.b, .int .i64 (fit f).k.c, .int .i64 (fit f).k.d, .int .i64 (fit f).k.e, .int .i64 (fit f).k.f] 25
    exact hK _ _ ((KeepsOthers.alloc _ _).from _) (((Below.refl w.heap.size W)).alloc (by omega) _) ⟨⟨⟨g1.alloc _, g2.alloc _, g3.alloc _, g4.alloc _⟩, by simp; omega⟩, gB.alloc (by omega) _⟩ ⟨W.heap.size, by omega, bX, rfl⟩
  case body =>
    rintro l pre f a' W hl ⟨r0, hr0⟩ ⟨⟨⟨g1, g2, g3, g4⟩, g5⟩, gB⟩ ⟨Bx, hBx, bX, rfl⟩ hlt
    have hz := gB.size
    obtain ⟨s1, hs1⟩ : ∃ s1, (sj p pre).1 = s1 := ⟨_, rfl⟩
    obtain ⟨s2, hs2⟩ : ∃ s2, (sj p pre).2 = s2 := ⟨_, rfl⟩
    have HS := Lib.hid (And.intro hs1 hs2)
    rw [hs1, hs2] at g3
    have SK := Lib.hid (sj_ok HP.out pre)
    have KS : Hid (∀ W', Grew W W' → (W'.cell? ⟨w.heap.size, 0, none⟩ = some (.func (.func g) #[] #[]) ∧ W'.cell? ⟨w.heap.size + 1 + 1, 0, none⟩ = some (.int .i64 s1) ∧ W'.cell? ⟨w.heap.size + 1 + 1, 1, none⟩ = some (.int .i64 s2) ∧ W'.frozen? ⟨w.heap.size + 1 + 1, 0, none⟩ = false ∧ W'.frozen? ⟨w.heap.size + 1 + 1, 1, none⟩ = false ∧ W'.cell? ⟨Bx, 0, none⟩ = some (.int .i64 (fit f).x) ∧ W'.cell? ⟨Bx, 1, none⟩ = some (.int .i64 (fit f).y) ∧ W'.cell? ⟨Bx, 2, none⟩ = some (.int .i64 (fit f).s) ∧ W'.cell? ⟨Bx, 3, none⟩ = some (.int .i64 (fit f).k.a) ∧ W'.cell? ⟨Bx, 4, none⟩ = some (.int .i64 (fit f).k.b) ∧ W'.cell? ⟨Bx, 5, none⟩ = some (.int .i64 (fit f).k.c) ∧ W'.cell? ⟨Bx, 6, none⟩ = some (.int .i64 (fit f).k.d) ∧ W'.cell? ⟨Bx, 7, none⟩ = some (.int .i64 (fit f).k.e) ∧ W'.cell? ⟨Bx, 8, none⟩ = some (.int .i64 (fit f).k.f))) := Lib.hid (fun W' g => by
      have j1 := (g1.grown g).one
      have j3 := (g3.grown g).two
      have jx := fun i v h => blkAt (i := i) (v := v) (bX.grown g) h
      exact ⟨j1.1, j3.1.1, j3.1.2, j3.2.1, j3.2.2, jx 0 _ rfl, jx 1 _ rfl, jx 2 _ rfl, jx 3 _ rfl, jx 4 _ rfl, jx 5 _ rfl, jx 6 _ rfl, jx 7 _ rfl, jx 8 _ rfl⟩)
    have FIN : Hid (∀ W' (q : Int × Int) (a : Act) (W2 : World), Grew W W' → sj p (pre ++ [f]) = q → (pre = [] ∧ W2 = ((W'.setCell ⟨w.heap.size + 1 + 1, 0, none⟩ (.int .i64 q.1)).setCell ⟨w.heap.size + 1 + 1, 1, none⟩ (.int .i64 q.2)).setCell ⟨w.heap.size + 1 + 1 + 1, 0, none⟩ (.bool true) ∨ pre ≠ [] ∧ W2 = (W'.setCell ⟨w.heap.size + 1 + 1, 0, none⟩ (.int .i64 q.1)).setCell ⟨w.heap.size + 1 + 1, 1, none⟩ (.int .i64 q.2)) → ownPostG W0.heap.size (Below w.heap.size) (fun pre W => ((Blk W (w.heap.size) #[.func (.func g) #[] #[]] 60 ∧ Blk W (w.heap.size + 1) #[.int .i64 0, .int .i64 0] 23 ∧ Blk W (w.heap.size + 1 + 1) #[.int .i64 (sj p pre).1, .int .i64 (sj p pre).2] 23 ∧ Blk W (w.heap.size + 1 + 1 + 1) #[.bool (!pre.isEmpty)] 4) ∧ W0.heap.size ≤ W.heap.size) ∧ Below w.heap.size w W) (fun _ _ _ => False) (pre ++ [f]) W .normal a W2) := Lib.hid (fun W' q a W2 g e hd => by
      have e2 : (!(pre ++ [f]).isEmpty) = true := by cases pre <;> rfl
      have j1 := g1.grown g
      have j2 := g2.grown g
      have j3 := (g3.grown g).put2 (u' := .int .i64 q.1) (v' := .int .i64 q.2)
      have j4 := g4.grown g
      have gs := g.size
      have kf := keepsF (B := W0.heap.size) (grownBy_g g) (fun r e => by cases e)
      have bw : Below w.heap.size W W' := Below.mono (g : Below W.heap.size W W') hz
      rcases hd with ⟨rfl, rfl⟩ | ⟨hn, rfl⟩
      · refine ⟨kf.trans (((((KeepsOthers.refl W').trans (KeepsOthers.setCell _ _ _)).trans (KeepsOthers.setCell _ _ _)).trans (KeepsOthers.setCell _ _ _)).from _), ?_, ⟨⟨?_, ?_, ?_, ?_⟩, ?_⟩, ?_⟩
        · exact (((bw.setCell (by simp only; omega) _).setCell (by simp only; omega) _).setCell (by simp only; omega) _)
        · exact ((j1.other (by omega) _).other (by omega) _).other (by omega) _
        · exact ((j2.other (by omega) _).other (by omega) _).other (by omega) _
        · rw [e]
          exact j3.other (by omega) _
        · rw [e2]
          exact ((j4.other (by omega) _).other (by omega) _).put0
        · simp; omega
        · exact ((((gB.trans bw).setCell (by simp only; omega) _).setCell (by simp only; omega) _).setCell (by simp only; omega) _)
      · have e3 : (!pre.isEmpty) = true := by
          cases pre with
          | nil => exact absurd rfl hn
          | cons _ _ => rfl
        rw [e3] at j4
        refine ⟨kf.trans ((((KeepsOthers.refl W').trans (KeepsOthers.setCell _ _ _)).trans (KeepsOthers.setCell _ _ _)).from _), ?_, ⟨⟨?_, ?_, ?_, ?_⟩, ?_⟩, ?_⟩
        · exact ((bw.setCell (by simp only; omega) _).setCell (by simp only; omega) _)
        · exact (j1.other (by omega) _).other (by omega) _
        · exact (j2.other (by omega) _).other (by omega) _
        · rw [e]
          exact j3
        · rw [e2]
          exact (j4.other (by omega) _).other (by omega) _
        · simp; omega
        · exact (((gB.trans bw).setCell (by simp only; omega) _).setCell (by simp only; omega) _))
    have c4 := (g4.one).1
    have f4 : ∀ W', Grew W W' → (W'.cell? ⟨w.heap.size + 1 + 1 + 1, 0, none⟩ = some (.bool (!pre.isEmpty)) ∧ W'.frozen? ⟨w.heap.size + 1 + 1 + 1, 0, none⟩ = false) ∧ W.heap.size ≤ W'.heap.size := fun W' g => ⟨(g4.grown g).one, g.size⟩
    have F4 := Lib.hid f4
    have ltx := bX.lt
    have lt3 := g4.lt
    have lt2 := g3.lt
    have lt0 := g1.lt
    clear g1 g2 g3 g4 bX f4
    by_cases hn : pre = []
    · subst hn
      have CC : Hid (CallsIn (Fence.wide.inRound l) 2 Tryz.prog g #[.agg #[.int .i64 (fit f).x, .int .i64 (fit f).y, .int .i64 (fit f).s, .int .i64 (fit f).k.a, .int .i64 (fit f).k.b, .int .i64 (fit f).k.c, .int .i64 (fit f).k.d, .int .i64 (fit f).k.e, .int .i64 (fit f).k.f]] W fun e w' => e = .returned (.agg #[.int .i64 (p (fit f)).1, .int .i64 (p (fit f)).2]) ∧ Grew W w') := Lib.hid (CallsIn.inRound l (callsIn_wide.2 (HC.out (fit f) W)))
      have c4' : W.cell? ⟨w.heap.size + 1 + 1 + 1, 0, none⟩ = some (.bool false) := c4
      obtain ⟨y0, y1, y2, y3, y4, y5, y6, y7, y8, y9, y10, y11, y12, y13⟩ := KS.out W (Grew.refl W)
      clear c4
      gi_wp2_with fail
      refine ⟨trivial, CC.out.mono ?_⟩
      rintro e w4 ⟨rfl, gr4⟩
      obtain ⟨v0, v1, v2, v3, v4, v5, v6, v7, v8, v9, v10, v11, v12, v13⟩ := KS.out w4 gr4
      obtain ⟨⟨v14, v16⟩, v15⟩ := F4.out w4 gr4
      clear y0 y1 y2 y3 y4 y5 y6 y7 y8 y9 y10 y11 y12 y13
      gi_wp2_with fail
      exact FIN.out w4 (p (fit f)) _ _ gr4 (sj_one p f) (Or.inl ⟨by first | rfl | trivial, rfl⟩)
    · have c4' : W.cell? ⟨w.heap.size + 1 + 1 + 1, 0, none⟩ = some (.bool true) := by
        rw [c4]
        cases pre with
        | nil => exact absurd rfl hn
        | cons _ _ => rfl
      have JC : Hid (∀ W', Calls Tryz.prog 51 #[.agg #[.int .i64 s1, .int .i64 s2], .agg #[.int .i64 (p (fit f)).1, .int .i64 (p (fit f)).2]] W' fun e w' => e = .returned (.tuple #[.agg #[.int .i64 (min s1 (p (fit f)).1), .int .i64 (max s2 (p (fit f)).2)], .int .i64 0]) ∧ Grew W' w') := Lib.hid (fun W' => join_c _ _ _ _ W' ⟨by have := SK.out; unfold Sok at this; rw [HS.out.1, HS.out.2] at this; exact this, HP.out f⟩)
      have S0 : W.drew.cell? ⟨w.heap.size, 0, none⟩ = some (.func (.func g) #[] #[]) ∧ W.drew.cell? ⟨w.heap.size + 1 + 1, 0, none⟩ = some (.int .i64 s1) ∧ W.drew.cell? ⟨w.heap.size + 1 + 1, 1, none⟩ = some (.int .i64 s2) ∧ W.drew.frozen? ⟨w.heap.size + 1 + 1, 0, none⟩ = false ∧ W.drew.frozen? ⟨w.heap.size + 1 + 1, 1, none⟩ = false ∧ W.drew.cell? ⟨Bx, 0, none⟩ = some (.int .i64 (fit f).x) ∧ W.drew.cell? ⟨Bx, 1, none⟩ = some (.int .i64 (fit f).y) ∧ W.drew.cell? ⟨Bx, 2, none⟩ = some (.int .i64 (fit f).s) ∧ W.drew.cell? ⟨Bx, 3, none⟩ = some (.int .i64 (fit f).k.a) ∧ W.drew.cell? ⟨Bx, 4, none⟩ = some (.int .i64 (fit f).k.b) ∧ W.drew.cell? ⟨Bx, 5, none⟩ = some (.int .i64 (fit f).k.c) ∧ W.drew.cell? ⟨Bx, 6, none⟩ = some (.int .i64 (fit f).k.d) ∧ W.drew.cell? ⟨Bx, 7, none⟩ = some (.int .i64 (fit f).k.e) ∧ W.drew.cell? ⟨Bx, 8, none⟩ = some (.int .i64 (fit f).k.f) := KS.out W.drew (Grew.refl W).drew
      clear c4
      gi_wp2_with fail
      refine Bar.begin_round (S := (fun W' => W'.cell? ⟨w.heap.size, 0, none⟩ = some (.func (.func g) #[] #[]) ∧ W'.cell? ⟨w.heap.size + 1 + 1, 0, none⟩ = some (.int .i64 s1) ∧ W'.cell? ⟨w.heap.size + 1 + 1, 1, none⟩ = some (.int .i64 s2) ∧ W'.frozen? ⟨w.heap.size + 1 + 1, 0, none⟩ = false ∧ W'.frozen? ⟨w.heap.size + 1 + 1, 1, none⟩ = false ∧ W'.cell? ⟨Bx, 0, none⟩ = some (.int .i64 (fit f).x) ∧ W'.cell? ⟨Bx, 1, none⟩ = some (.int .i64 (fit f).y) ∧ W'.cell? ⟨Bx, 2, none⟩ = some (.int .i64 (fit f).s) ∧ W'.cell? ⟨Bx, 3, none⟩ = some (.int .i64 (fit f).k.a) ∧ W'.cell? ⟨Bx, 4, none⟩ = some (.int .i64 (fit f).k.b) ∧ W'.cell? ⟨Bx, 5, none⟩ = some (.int .i64 (fit f).k.c) ∧ W'.cell? ⟨Bx, 6, none⟩ = some (.int .i64 (fit f).k.d) ∧ W'.cell? ⟨Bx, 7, none⟩ = some (.int .i64 (fit f).k.e) ∧ W'.cell? ⟨Bx, 8, none⟩ = some (.int .i64 (fit f).k.f))) 8 (by kernel_rfl) (by kernel_rfl) (by first | assumption | exact S0 | (simp [go_sem, *]; done)) (fun hHeld => ?_)
      refine Bar.Walk.take [8] (i := 0) (oi := ⟨some 12, _, _, _, _, _⟩) (v := ?_) rfl (by kernel_rfl) (by kernel_rfl) (by kernel_rfl) (by kernel_rfl) (fun _ _ _ h => h) (Or.inl ⟨by rfl, ?_⟩) (by assumption) ?_
      rotate_left
      · intro w hSw; (try dsimp only at hSw); go_simp; (try with_reducible rfl)
      try simp only [Act.put, List.setIfInBounds_toArray, List.set_cons_zero, List.set_cons_succ]
      refine Bar.Walk.take [8] (i := 1) (oi := ⟨some 13, _, _, _, _, _⟩) (v := ?_) rfl (by kernel_rfl) (by kernel_rfl) (by kernel_rfl) (by kernel_rfl) (fun _ _ _ h => h) (Or.inl ⟨by rfl, ?_⟩) (by assumption) ?_
      rotate_left
      · intro w hSw; (try dsimp only at hSw); go_simp; (try with_reducible rfl)
      try simp only [Act.put, List.setIfInBounds_toArray, List.set_cons_zero, List.set_cons_succ]
      refine Bar.Walk.take [8] (i := 2) (oi := ⟨some 14, _, _, _, _, _⟩) (v := ?_) rfl (by kernel_rfl) (by kernel_rfl) (by kernel_rfl) (by kernel_rfl) (fun _ _ _ h => h) (Or.inl ⟨by rfl, ?_⟩) (by assumption) ?_
      rotate_left
      · intro w hSw; (try dsimp only at hSw); go_simp; (try with_reducible rfl)
      try simp only [Act.put, List.setIfInBounds_toArray, List.set_cons_zero, List.set_cons_succ]
      refine Bar.Walk.step (i := 3) (o := ⟨some 15, _, _, _, _, _⟩) (by kernel_rfl) rfl (fun K hK => ?_)
      go_simp
      refine (HC.out (fit f) _).mono ?_
      rintro e w4 ⟨rfl, gr4⟩
      have GA4 := Grew.trans ((Grew.refl W).drew) gr4
      have SS4 := KS.out w4 GA4
      go_wp2_with fail
      refine hK.out _ _ (by (try dsimp only); exact SS4) (fun h1 => ?_)
      clear hK K hHeld
      have hHeld := h1
      clear h1
      try simp only [Act.put, List.setIfInBounds_toArray, List.set_cons_zero, List.set_cons_succ]
      refine Bar.Walk.step (i := 4) (o := ⟨some 16, _, _, _, _, _⟩) (by kernel_rfl) rfl (fun K hK => ?_)
      go_simp
      refine (JC.out _).mono ?_
      rintro e w5 ⟨rfl, gr5⟩
      have GA5 := Grew.trans GA4 gr5
      have SS5 := KS.out w5 GA5
      go_wp2_with fail
      refine hK.out _ _ (by (try dsimp only); exact SS5) (fun h1 => ?_)
      clear hK K hHeld
      have hHeld := h1
      clear h1
      try simp only [Act.put, List.setIfInBounds_toArray, List.set_cons_zero, List.set_cons_succ]
      refine Bar.Walk.takeY (i := 5) (oi := ⟨some 11, _, _, _, _, _⟩) (v := ?_) rfl (by kernel_rfl) (by kernel_rfl) (by kernel_rfl) rfl (fun _ _ _ h => h) (Or.inl ⟨by rfl, ?_⟩) (by assumption) ?_
      rotate_left
      · intro w; go_simp; (try with_reducible rfl)
      try simp only [Act.put, List.setIfInBounds_toArray, List.set_cons_zero, List.set_cons_succ]
      refine Bar.Walk.takeY (i := 6) (oi := ⟨some 17, _, _, _, _, _⟩) (v := ?_) rfl (by kernel_rfl) (by kernel_rfl) (by kernel_rfl) rfl (fun _ _ _ h => h) (Or.inl ⟨by rfl, ?_⟩) (by assumption) ?_
      rotate_left
      · intro w; go_simp; (try with_reducible rfl)
      try simp only [Act.put, List.setIfInBounds_toArray, List.set_cons_zero, List.set_cons_succ]
      refine Bar.Walk.takeY (i := 7) (oi := ⟨some 18, _, _, _, _, _⟩) (v := ?_) rfl (by kernel_rfl) (by kernel_rfl) (by kernel_rfl) rfl (fun _ _ _ h => h) (Or.inl ⟨by rfl, ?_⟩) (by assumption) ?_
      rotate_left
      · intro w; go_simp; (try with_reducible rfl)
      try simp only [Act.put, List.setIfInBounds_toArray, List.set_cons_zero, List.set_cons_succ]
      obtain ⟨y0, y1, y2, y3, y4, y5, y6, y7, y8, y9, y10, y11, y12, y13⟩ := hHeld
      have sz5 := GA5.size
      refine Bar.Walk.pass (o := ⟨none, _, _, _, _, _⟩) (by kernel_rfl) rfl (by kernel_rfl) (fun K hK => ?_)
      go_simp
      refine hK.out _ _ ?_
      clear hK K
      try simp only [Act.put, List.setIfInBounds_toArray, List.set_cons_zero, List.set_cons_succ]
      refine wpAny_done (by kernel_rfl) ?_ _
      refine Bar.Only.out ?_
      gi_wp2_with fail
      exact FIN.out w5 (js (sj p pre) (p (fit f))) _ _ GA5 (sj_more p pre f hn) (Or.inr ⟨hn, by unfold js; rw [HS.out.1, HS.out.2]⟩)
  case done =>
    rintro D ys W hD rfl ⟨⟨⟨g1, g2, g3, g4⟩, g5⟩, gB⟩ hK
    obtain ⟨⟨p0, p1⟩, p2, p3⟩ := g3.two
    obtain ⟨⟨q0, q1⟩, q2, q3⟩ := g2.two
    have l2 := g2.lt
    have l3 := g3.lt
    have hDl := (Array.getElem?_eq_some_iff.1 hK).1
    gi_wp2_with fail
    have hK2 : ((W.setCell ⟨w.heap.size + 1, 0, none⟩ (.int .i64 (sj p ys).1)).setCell ⟨w.heap.size + 1, 1, none⟩ (.int .i64 (sj p ys).2)).heap[D]? = some (.deferred (some [])) := (Below.heap_setCell _ _ _ D (by simp only; omega)).trans ((Below.heap_setCell _ _ _ D (by simp only; omega)).trans hK)
    have bw : Below w.heap.size w ((W.setCell ⟨w.heap.size + 1, 0, none⟩ (.int .i64 (sj p ys).1)).setCell ⟨w.heap.size + 1, 1, none⟩ (.int .i64 (sj p ys).2)) := (gB.setCell (by simp only; omega) _).setCell (by simp only; omega) _
    have nD : ¬ D = w.heap.size + 1 := by omega
    have b2 := g2.put2 (u' := .int .i64 (sj p ys).1) (v' := .int .i64 (sj p ys).2)
    have b3 := (Blk.keepPut b2 D (.deferred none) (fun e => nD e.symm)).two.1
    refine ⟨by simp, .inl ⟨_, _, rfl, run_takeDeferred hK2, ?_⟩⟩
    refine ⟨.agg #[.int .i64 (sj p ys).1, .int .i64 (sj p ys).2], ?_, rfl, bw.trans (belowK_b (w := w) (Nat.le_refl _) _ D _ _ (by omega) hK2 rfl rfl)⟩
    obtain ⟨y0, y1⟩ := b3
    clear b2 g1 g2 g3 g4 bw hK2 hK
    simp [results, Tryz.results32, go_sem, *]
  case stop =>
    rintro D c pre W _ _ h _
    exact h.elim
end Td
end Go.Proofs.YtpiajdahmcelnaaGreat
