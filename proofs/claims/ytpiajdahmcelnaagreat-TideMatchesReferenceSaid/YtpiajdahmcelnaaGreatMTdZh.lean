/-
  The reference and the landed drift.
-/
import Derived.Test.YtpiajdahmcelnaaGreatMTdZg
import Derived.Test.YtpiajdahmcelnaaGreatMTdC
import Derived.Test.YtpiajdahmcelnaaGreatMTdP
namespace Go.Proofs.YtpiajdahmcelnaaGreat
open Go.RowKit Hl
namespace Td
set_option maxRecDepth 100000
theorem Blk.far9 {W : World} {B D : Nat} {cs : Array Value} {T : TypeId} {v0 v1 v2 v3 v4 v5 v6 v7 v8 : Value} (hne : D ≠ B) (h : Blk W D cs T) :
    Blk (((((((((W.setCell ⟨B, 0, none⟩ v0).setCell ⟨B, 1, none⟩ v1).setCell ⟨B, 2, none⟩ v2).setCell ⟨B, 3, none⟩ v3).setCell ⟨B, 4, none⟩ v4).setCell ⟨B, 5, none⟩ v5).setCell ⟨B, 6, none⟩ v6).setCell ⟨B, 7, none⟩ v7).setCell ⟨B, 8, none⟩ v8) D cs T :=
  ((((((((h.other hne v0).other hne v1).other hne v2).other hne v3).other hne v4).other hne v5).other hne v6).other hne v7).other hne v8
theorem both_drift (K : Hl.Code) (t : Ed) (u : Value) (lo hi : Pt) (c d : Int) (w : World) (hs : Rs w u t.l) (hl : t.l.length ≤ 9223372036854775807) :
    ∃ (P P' : List Pt → Prop) (m : Int), (∀ q q', P q → P' q' → q = q') ∧ (∀ q, P q → q.length ≤ 9223372036854775807) ∧
      (∀ W, Grew w W → Calls Tryz.prog 12 #[tv t u, .agg #[.int .i64 lo.1, .int .i64 lo.2], .agg #[.int .i64 hi.1, .int .i64 hi.2], .int .i64 c, .int .i64 d] W fun e w' => ∃ q v, P q ∧ e = .returned (.tuple #[v, .int .i64 m]) ∧ Sl w' v q ∧ Grew W w') ∧
      (∀ W, Grew w W → Calls Tryz.prog 13 #[tv t u, .agg #[.int .i64 lo.1, .int .i64 lo.2], .agg #[.int .i64 hi.1, .int .i64 hi.2], .int .i64 c, .int .i64 d] W fun e w' => ∃ q v, P' q ∧ e = .returned (.tuple #[v, .int .i64 m]) ∧ Sl w' v q ∧ Grew W w') := by
  have nil : ∀ (m : Int) (e : Ending) (W w' : World), e = .returned (.tuple #[.slice none 0 0, .int .i64 m]) ∧ Grew W w' → ∃ q v, q = [] ∧ e = .returned (.tuple #[v, .int .i64 m]) ∧ Sl w' v q ∧ Grew W w' :=
    fun m e W w' h => ⟨[], .slice none 0 0, rfl, h.1, Or.inl ⟨rfl, none, 0, rfl⟩, h.2⟩
  by_cases hb : BOk t lo hi c d
  · by_cases hf : 100000 < d - c
    · exact ⟨fun q => q = [], fun q => q = [], 1, fun q q' a b => by rw [a, b], fun q a => by rw [a]; decide, fun W g => (drift_far K t u lo hi c d W (hs.grew g) hl hb hf).mono fun e w' h => nil 1 e W w' h, fun W g => (R.drift_far t u lo hi c d W (hs.grew g) hl hb hf).mono fun e w' h => nil 1 e W w' h⟩
    · by_cases hp : Plcs (drl (OvB t lo hi c d) (d - c))
      · refine ⟨fun q => IsHull (drl (OvB t lo hi c d) (d - c)) q ∧ Vl q, fun q => IsHull (drl (OvB t lo hi c d) (d - c)) q, 0, fun q q' a b => hull_unique a.1 b, fun q a => by have := a.2.1.2; omega, fun W g => ?_, fun W g => R.drift_yes t u lo hi c d W (hs.grew g) hl hb (by omega) hp⟩
        refine (drift_yes K t u lo hi c d W (hs.grew g) hl hb (by omega) hp).mono ?_
        rintro e w' ⟨q, v, h1, h2, h3, h4, h5⟩
        exact ⟨q, v, ⟨h1, h2⟩, h3, h4, h5⟩
      · exact ⟨fun q => q = [], fun q => q = [], 3, fun q q' a b => by rw [a, b], fun q a => by rw [a]; decide, fun W g => (drift_rng K t u lo hi c d W (hs.grew g) hl hb (by omega) hp).mono fun e w' h => nil 3 e W w' h, fun W g => (R.drift_rng t u lo hi c d W (hs.grew g) hl hb (by omega) hp).mono fun e w' h => nil 3 e W w' h⟩
  · exact ⟨fun q => q = [], fun q => q = [], 1, fun q q' a b => by rw [a, b], fun q a => by rw [a]; decide, fun W g => (drift_no K t u lo hi c d W (hs.grew g) hl hb).mono fun e w' h => nil 1 e W w' h, fun W g => (R.drift_no t u lo hi c d W (hs.grew g) hl hb).mono fun e w' h => nil 1 e W w' h⟩
end Td
end Go.Proofs.YtpiajdahmcelnaaGreat
