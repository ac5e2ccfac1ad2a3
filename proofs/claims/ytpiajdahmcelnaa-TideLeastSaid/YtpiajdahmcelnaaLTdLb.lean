/-
  The law TideLeast.
-/
import Derived.Test.YtpiajdahmcelnaaLTdLa
import Derived.Test.YtpiajdahmcelnaaLTdP
import Derived.Test.YtpiajdahmcelnaaLHullOwn
namespace Go.Proofs.Ytpiajdahmcelnaa
open Go.RowKit Hl
namespace Td
set_option maxRecDepth 100000
set_option maxHeartbeats 4000000 in
theorem least_bad (K : Hl.Code) (t : Ed) (u : Value) (lo hi : Pt) (c d : Int) (w : World) (hs : Rs w u t.l) (hl : t.l.length ≤ 9223372036854775807) (hu : ¬ Usb t lo hi c d) :
    Calls Try.prog 4 #[tv t u, .agg #[.int .i64 lo.1, .int .i64 lo.2], .agg #[.int .i64 hi.1, .int .i64 hi.2], .int .i64 c, .int .i64 d] w fun e w' => e = .returned (.bool true) ∧ Grew w w' := by
  have HD : Hid (∀ W, Calls Try.prog 9 #[] W fun e w' => e = .returned (.bool true) ∧ Grew W w') := Lib.hid (fun W => head_true K W)
  have UC : Hid (∀ W, Grew w W → Calls Try.prog 10 #[tv t u, .agg #[.int .i64 lo.1, .int .i64 lo.2], .agg #[.int .i64 hi.1, .int .i64 hi.2], .int .i64 c, .int .i64 d] W fun e w' => e = .returned (.bool false) ∧ Grew W w') := Lib.hid (fun W g => by
    have h := usable_c t u lo hi c d W (hs.grew g) hl
    rwa [decide_eq_false hu] at h)
  unfold tv at UC ⊢
  clear hs hu K
  have HT : Hid (∀ W, Grew (((w.alloc (.cells #[.int .i64 t.v, .int .i64 t.z, .int .i64 t.n, .int .i64 t.r.x, .int .i64 t.r.y, .int .i64 t.r.s, .int .i64 t.r.k.a, .int .i64 t.r.k.b, .int .i64 t.r.k.c, .int .i64 t.r.k.d, .int .i64 t.r.k.e, .int .i64 t.r.k.f, u] 28)).alloc (.cells #[.int .i64 lo.1, .int .i64 lo.2] 30)).alloc (.cells #[.int .i64 hi.1, .int .i64 hi.2] 30)) W → ((W.cell? ⟨w.heap.size, 0, none⟩ = some (.int .i64 t.v) ∧ W.cell? ⟨w.heap.size, 1, none⟩ = some (.int .i64 t.z) ∧ W.cell? ⟨w.heap.size, 2, none⟩ = some (.int .i64 t.n) ∧ W.cell? ⟨w.heap.size, 3, none⟩ = some (.int .i64 t.r.x) ∧ W.cell? ⟨w.heap.size, 4, none⟩ = some (.int .i64 t.r.y) ∧ W.cell? ⟨w.heap.size, 5, none⟩ = some (.int .i64 t.r.s) ∧ W.cell? ⟨w.heap.size, 6, none⟩ = some (.int .i64 t.r.k.a) ∧ W.cell? ⟨w.heap.size, 7, none⟩ = some (.int .i64 t.r.k.b) ∧ W.cell? ⟨w.heap.size, 8, none⟩ = some (.int .i64 t.r.k.c) ∧ W.cell? ⟨w.heap.size, 9, none⟩ = some (.int .i64 t.r.k.d) ∧ W.cell? ⟨w.heap.size, 10, none⟩ = some (.int .i64 t.r.k.e) ∧ W.cell? ⟨w.heap.size, 11, none⟩ = some (.int .i64 t.r.k.f) ∧ W.cell? ⟨w.heap.size, 12, none⟩ = some (u)) ∧ (W.cell? ⟨w.heap.size + 1, 0, none⟩ = some (.int .i64 lo.1) ∧ W.cell? ⟨w.heap.size + 1, 1, none⟩ = some (.int .i64 lo.2)) ∧ (W.cell? ⟨w.heap.size + 1 + 1, 0, none⟩ = some (.int .i64 hi.1) ∧ W.cell? ⟨w.heap.size + 1 + 1, 1, none⟩ = some (.int .i64 hi.2)) ∧ w.heap.size < W.heap.size ∧ w.heap.size + 1 < W.heap.size ∧ w.heap.size + 1 + 1 < W.heap.size)) := Lib.hid (fun W g => by
    have b0 := (((Blk.new w #[.int .i64 t.v, .int .i64 t.z, .int .i64 t.n, .int .i64 t.r.x, .int .i64 t.r.y, .int .i64 t.r.s, .int .i64 t.r.k.a, .int .i64 t.r.k.b, .int .i64 t.r.k.c, .int .i64 t.r.k.d, .int .i64 t.r.k.e, .int .i64 t.r.k.f, u] 28).alloc (.cells #[.int .i64 lo.1, .int .i64 lo.2] 30)).alloc (.cells #[.int .i64 hi.1, .int .i64 hi.2] 30)).grown g
    have b1 := ((blkN (W := w.alloc (.cells #[.int .i64 t.v, .int .i64 t.z, .int .i64 t.n, .int .i64 t.r.x, .int .i64 t.r.y, .int .i64 t.r.s, .int .i64 t.r.k.a, .int .i64 t.r.k.b, .int .i64 t.r.k.c, .int .i64 t.r.k.d, .int .i64 t.r.k.e, .int .i64 t.r.k.f, u] 28)) (k := w.heap.size + 1) (cs := #[.int .i64 lo.1, .int .i64 lo.2]) (t := 30) (by simp)).alloc (.cells #[.int .i64 hi.1, .int .i64 hi.2] 30)).grown g
    have b2 := (blkN (W := (w.alloc (.cells #[.int .i64 t.v, .int .i64 t.z, .int .i64 t.n, .int .i64 t.r.x, .int .i64 t.r.y, .int .i64 t.r.s, .int .i64 t.r.k.a, .int .i64 t.r.k.b, .int .i64 t.r.k.c, .int .i64 t.r.k.d, .int .i64 t.r.k.e, .int .i64 t.r.k.f, u] 28)).alloc (.cells #[.int .i64 lo.1, .int .i64 lo.2] 30)) (k := w.heap.size + 1 + 1) (cs := #[.int .i64 hi.1, .int .i64 hi.2]) (t := 30) (by simp)).grown g
    exact ⟨⟨blkAt b0 rfl, blkAt b0 rfl, blkAt b0 rfl, blkAt b0 rfl, blkAt b0 rfl, blkAt b0 rfl, blkAt b0 rfl, blkAt b0 rfl, blkAt b0 rfl, blkAt b0 rfl, blkAt b0 rfl, blkAt b0 rfl, blkAt b0 rfl⟩, ⟨blkAt b1 rfl, blkAt b1 rfl⟩, ⟨blkAt b2 rfl, blkAt b2 rfl⟩, b0.lt, b1.lt, b2.lt⟩)
  have G0 : Hid (Grew w (((w.alloc (.cells #[.int .i64 t.v, .int .i64 t.z, .int .i64 t.n, .int .i64 t.r.x, .int .i64 t.r.y, .int .i64 t.r.s, .int .i64 t.r.k.a, .int .i64 t.r.k.b, .int .i64 t.r.k.c, .int .i64 t.r.k.d, .int .i64 t.r.k.e, .int .i64 t.r.k.f, u] 28)).alloc (.cells #[.int .i64 lo.1, .int .i64 lo.2] 30)).alloc (.cells #[.int .i64 hi.1, .int .i64 hi.2] 30))) := Lib.hid (((Grew.refl w).alloc _ _).alloc _ _ |>.alloc _ _)
  go_enter Try.func4, Try.ntmps4
  go_wp2_with fail
  refine (HD.out _).mono ?_
  rintro e w1 ⟨rfl, g1⟩
  have GW := g1
  obtain ⟨⟨t0, t1, t2, t3, t4, t5, t6, t7, t8, t9, t10, t11, t12⟩, ⟨l0, l1⟩, ⟨h0, h1⟩, q0, q1, q2⟩ := HT.out w1 GW
  go_wp2_with fail
  refine (UC.out _ (G0.out.trans GW)).mono ?_
  rintro e w2 ⟨rfl, g2⟩
  go_wp2_with fail
  go_ret
  exact ⟨rfl, (G0.out.trans GW).trans g2⟩
set_option maxHeartbeats 16000000 in
theorem least_big (K : Hl.Code) (t : Ed) (u : Value) (lo hi : Pt) (c d : Int) (w : World) (hs : Rs w u t.l) (hl : t.l.length ≤ 9223372036854775807) (hu : Usb t lo hi c d) (hb : ¬ (hi.1 - lo.1 ≤ 20000 ∧ hi.2 - lo.2 ≤ 20000 ∧ d - c ≤ 7200)) :
    Calls Try.prog 4 #[tv t u, .agg #[.int .i64 lo.1, .int .i64 lo.2], .agg #[.int .i64 hi.1, .int .i64 hi.2], .int .i64 c, .int .i64 d] w fun e w' => e = .returned (.bool true) ∧ Grew w w' := by
  have HD : Hid (∀ W, Calls Try.prog 9 #[] W fun e w' => e = .returned (.bool true) ∧ Grew W w') := Lib.hid (fun W => head_true K W)
  have UC : Hid (∀ W, Grew w W → Calls Try.prog 10 #[tv t u, .agg #[.int .i64 lo.1, .int .i64 lo.2], .agg #[.int .i64 hi.1, .int .i64 hi.2], .int .i64 c, .int .i64 d] W fun e w' => e = .returned (.bool true) ∧ Grew W w') := Lib.hid (fun W g => by
    have h := usable_c t u lo hi c d W (hs.grew g) hl
    rwa [decide_eq_true hu] at h)
  obtain ⟨c0, c1, c2⟩ : 0 ≤ c ∧ c ≤ d ∧ d ≤ 1000000000 := hu.2.2.2
  obtain ⟨⟨⟨a0, a1⟩, ⟨a2, a3⟩⟩, ⟨⟨b0, b1⟩, ⟨b2, b3⟩⟩, o1, o2⟩ := hu.2.2.1
  unfold tv at UC ⊢
  clear hs hu K
  have HT : Hid (∀ W, Grew (((w.alloc (.cells #[.int .i64 t.v, .int .i64 t.z, .int .i64 t.n, .int .i64 t.r.x, .int .i64 t.r.y, .int .i64 t.r.s, .int .i64 t.r.k.a, .int .i64 t.r.k.b, .int .i64 t.r.k.c, .int .i64 t.r.k.d, .int .i64 t.r.k.e, .int .i64 t.r.k.f, u] 28)).alloc (.cells #[.int .i64 lo.1, .int .i64 lo.2] 30)).alloc (.cells #[.int .i64 hi.1, .int .i64 hi.2] 30)) W → ((W.cell? ⟨w.heap.size, 0, none⟩ = some (.int .i64 t.v) ∧ W.cell? ⟨w.heap.size, 1, none⟩ = some (.int .i64 t.z) ∧ W.cell? ⟨w.heap.size, 2, none⟩ = some (.int .i64 t.n) ∧ W.cell? ⟨w.heap.size, 3, none⟩ = some (.int .i64 t.r.x) ∧ W.cell? ⟨w.heap.size, 4, none⟩ = some (.int .i64 t.r.y) ∧ W.cell? ⟨w.heap.size, 5, none⟩ = some (.int .i64 t.r.s) ∧ W.cell? ⟨w.heap.size, 6, none⟩ = some (.int .i64 t.r.k.a) ∧ W.cell? ⟨w.heap.size, 7, none⟩ = some (.int .i64 t.r.k.b) ∧ W.cell? ⟨w.heap.size, 8, none⟩ = some (.int .i64 t.r.k.c) ∧ W.cell? ⟨w.heap.size, 9, none⟩ = some (.int .i64 t.r.k.d) ∧ W.cell? ⟨w.heap.size, 10, none⟩ = some (.int .i64 t.r.k.e) ∧ W.cell? ⟨w.heap.size, 11, none⟩ = some (.int .i64 t.r.k.f) ∧ W.cell? ⟨w.heap.size, 12, none⟩ = some (u)) ∧ (W.cell? ⟨w.heap.size + 1, 0, none⟩ = some (.int .i64 lo.1) ∧ W.cell? ⟨w.heap.size + 1, 1, none⟩ = some (.int .i64 lo.2)) ∧ (W.cell? ⟨w.heap.size + 1 + 1, 0, none⟩ = some (.int .i64 hi.1) ∧ W.cell? ⟨w.heap.size + 1 + 1, 1, none⟩ = some (.int .i64 hi.2)) ∧ w.heap.size < W.heap.size ∧ w.heap.size + 1 < W.heap.size ∧ w.heap.size + 1 + 1 < W.heap.size)) := Lib.hid (fun W g => by
    have b0 := (((Blk.new w #[.int .i64 t.v, .int .i64 t.z, .int .i64 t.n, .int .i64 t.r.x, .int .i64 t.r.y, .int .i64 t.r.s, .int .i64 t.r.k.a, .int .i64 t.r.k.b, .int .i64 t.r.k.c, .int .i64 t.r.k.d, .int .i64 t.r.k.e, .int .i64 t.r.k.f, u] 28).alloc (.cells #[.int .i64 lo.1, .int .i64 lo.2] 30)).alloc (.cells #[.int .i64 hi.1, .int .i64 hi.2] 30)).grown g
    have b1 := ((blkN (W := w.alloc (.cells #[.int .i64 t.v, .int .i64 t.z, .int .i64 t.n, .int .i64 t.r.x, .int .i64 t.r.y, .int .i64 t.r.s, .int .i64 t.r.k.a, .int .i64 t.r.k.b, .int .i64 t.r.k.c, .int .i64 t.r.k.d, .int .i64 t.r.k.e, .int .i64 t.r.k.f, u] 28)) (k := w.heap.size + 1) (cs := #[.int .i64 lo.1, .int .i64 lo.2]) (t := 30) (by simp)).alloc (.cells #[.int .i64 hi.1, .int .i64 hi.2] 30)).grown g
    have b2 := (blkN (W := (w.alloc (.cells #[.int .i64 t.v, .int .i64 t.z, .int .i64 t.n, .int .i64 t.r.x, .int .i64 t.r.y, .int .i64 t.r.s, .int .i64 t.r.k.a, .int .i64 t.r.k.b, .int .i64 t.r.k.c, .int .i64 t.r.k.d, .int .i64 t.r.k.e, .int .i64 t.r.k.f, u] 28)).alloc (.cells #[.int .i64 lo.1, .int .i64 lo.2] 30)) (k := w.heap.size + 1 + 1) (cs := #[.int .i64 hi.1, .int .i64 hi.2]) (t := 30) (by simp)).grown g
    exact ⟨⟨blkAt b0 rfl, blkAt b0 rfl, blkAt b0 rfl, blkAt b0 rfl, blkAt b0 rfl, blkAt b0 rfl, blkAt b0 rfl, blkAt b0 rfl, blkAt b0 rfl, blkAt b0 rfl, blkAt b0 rfl, blkAt b0 rfl, blkAt b0 rfl⟩, ⟨blkAt b1 rfl, blkAt b1 rfl⟩, ⟨blkAt b2 rfl, blkAt b2 rfl⟩, b0.lt, b1.lt, b2.lt⟩)
  have G0 : Hid (Grew w (((w.alloc (.cells #[.int .i64 t.v, .int .i64 t.z, .int .i64 t.n, .int .i64 t.r.x, .int .i64 t.r.y, .int .i64 t.r.s, .int .i64 t.r.k.a, .int .i64 t.r.k.b, .int .i64 t.r.k.c, .int .i64 t.r.k.d, .int .i64 t.r.k.e, .int .i64 t.r.k.f, u] 28)).alloc (.cells #[.int .i64 lo.1, .int .i64 lo.2] 30)).alloc (.cells #[.int .i64 hi.1, .int .i64 hi.2] 30))) := Lib.hid (((Grew.refl w).alloc _ _).alloc _ _ |>.alloc _ _)
  by_cases h1 : 20000 < hi.1 - lo.1
  · go_enter Try.func4, Try.ntmps4
    go_wp2_with fail
    refine (HD.out _).mono ?_
    rintro e w1 ⟨rfl, g1⟩
    have GW := g1
    obtain ⟨⟨t0, t1, t2, t3, t4, t5, t6, t7, t8, t9, t10, t11, t12⟩, ⟨l0, l1⟩, ⟨h0, h1⟩, q0, q1, q2⟩ := HT.out w1 GW
    go_wp2_with fail
    refine (UC.out _ (G0.out.trans GW)).mono ?_
    rintro e w2 ⟨rfl, g2⟩
    have GW := GW.trans g2
    clear g2
    clear t0 t1 t2 t3 t4 t5 t6 t7 t8 t9 t10 t11 t12 l0 l1 h0 h1 q0 q1 q2 
    obtain ⟨⟨t0, t1, t2, t3, t4, t5, t6, t7, t8, t9, t10, t11, t12⟩, ⟨l0, l1⟩, ⟨h0, h1⟩, q0, q1, q2⟩ := HT.out w2 GW
    go_wp2_with fail
    go_ret
    exact ⟨rfl, G0.out.trans GW⟩
  · by_cases h2 : 20000 < hi.2 - lo.2
    · go_enter Try.func4, Try.ntmps4
      go_wp2_with fail
      refine (HD.out _).mono ?_
      rintro e w1 ⟨rfl, g1⟩
      have GW := g1
      obtain ⟨⟨t0, t1, t2, t3, t4, t5, t6, t7, t8, t9, t10, t11, t12⟩, ⟨l0, l1⟩, ⟨h0, h1⟩, q0, q1, q2⟩ := HT.out w1 GW
      go_wp2_with fail
      refine (UC.out _ (G0.out.trans GW)).mono ?_
      rintro e w2 ⟨rfl, g2⟩
      have GW := GW.trans g2
      clear g2
      clear t0 t1 t2 t3 t4 t5 t6 t7 t8 t9 t10 t11 t12 l0 l1 h0 h1 q0 q1 q2 
      obtain ⟨⟨t0, t1, t2, t3, t4, t5, t6, t7, t8, t9, t10, t11, t12⟩, ⟨l0, l1⟩, ⟨h0, h1⟩, q0, q1, q2⟩ := HT.out w2 GW
      go_wp2_with fail
      go_ret
      exact ⟨rfl, G0.out.trans GW⟩
    · have h3 : 7200 < d - c := by omega
      go_enter Try.func4, Try.ntmps4
      go_wp2_with fail
      refine (HD.out _).mono ?_
      rintro e w1 ⟨rfl, g1⟩
      have GW := g1
      obtain ⟨⟨t0, t1, t2, t3, t4, t5, t6, t7, t8, t9, t10, t11, t12⟩, ⟨l0, l1⟩, ⟨h0, h1⟩, q0, q1, q2⟩ := HT.out w1 GW
      go_wp2_with fail
      refine (UC.out _ (G0.out.trans GW)).mono ?_
      rintro e w2 ⟨rfl, g2⟩
      have GW := GW.trans g2
      clear g2
      clear t0 t1 t2 t3 t4 t5 t6 t7 t8 t9 t10 t11 t12 l0 l1 h0 h1 q0 q1 q2 
      obtain ⟨⟨t0, t1, t2, t3, t4, t5, t6, t7, t8, t9, t10, t11, t12⟩, ⟨l0, l1⟩, ⟨h0, h1⟩, q0, q1, q2⟩ := HT.out w2 GW
      go_wp2_with fail
      go_ret
      exact ⟨rfl, G0.out.trans GW⟩
end Td
end Go.Proofs.Ytpiajdahmcelnaa
