/-
  The landed package codec: the frames of bytes.
-/
import Derived.Test.YtljmdpjjieoedaaDoorCodF
namespace Go.Proofs.YtljmdpjjieoedaaDoor
open Go.RowKit Wd
namespace Co
set_option maxRecDepth 100000

theorem fl_len : ∀ L : List (List Int), 12 * L.length ≤ (fl L).length
  | [] => by simp [fl_nil]
  | l :: L => by
    have h1 := fl_len L
    have h2 := lb_pos l
    rw [fl_cons, List.length_append, List.length_cons, fr_len]
    omega
/-- One frame more. -/
theorem next_f {bs : List UInt8} {L : List (List Int)} {p : Nat} {l : List Int} {r : List UInt8} (h1 : Oks L) (h2 : p = (fl L).length) (h3 : bs = fl L ++ bs.drop p) (h4 : Lok l) (h5 : bs.drop p = fr l ++ r) : p + (fr l).length ≤ bs.length ∧ Oks (L ++ [l]) ∧ p + (fr l).length = (fl (L ++ [l])).length ∧ bs = fl (L ++ [l]) ++ bs.drop (p + (fr l).length) := by
  have e : bs.drop (p + (fr l).length) = r := by rw [← List.drop_drop, h5, List.drop_left]
  refine ⟨?_, ?_, ?_, ?_⟩
  · have := congrArg List.length h5
    rw [List.length_drop, List.length_append] at this
    have := congrArg List.length h3
    rw [List.length_append, List.length_drop] at this
    omega
  · intro x hx
    rcases List.mem_append.1 hx with hx | hx
    · exact h1 x hx
    · rw [List.mem_singleton.1 hx]; exact h4
  · rw [fl_snoc, List.length_append, ← h2]
  · rw [e, fl_snoc, List.append_assoc, ← h5]
    exact h3
/-- What Frames answers. -/
def FramesSays (bs : List UInt8) (w : World) (e : Ending) (w' : World) : Prop :=
  Grew w w' ∧ ∃ L r u, Oks L ∧ NoF r ∧ bs = fl L ++ r ∧ e = .returned (.tuple #[u, .int .i64 ((fl L).length : Int), .int .i64 0]) ∧ Ls w' u L
set_option maxHeartbeats 8000000 in
theorem c_frames (v : Value) (bs : List UInt8) (w : World) (hT : Dg.Tu w) (hx : Bs w v bs) (hl : bs.length ≤ 200000) : Calls Tryd.prog 18 #[v] w (FramesSays bs w) := by
  have FI := Lib.hid (fun u cs W (g : Grew w W) hx hl => c_first u cs W (hT.grew g) hx hl)
  obtain ⟨a, c, rfl, hc⟩ := hx.shape
  have BX := Lib.hid hx
  have l2 : ¬ (200000 : Int) < (bs.length : Int) := by omega
  clear hT hx
  go_enter Tryd.func18, Tryd.ntmps18
  go_wp2_with fail
  go_loopw [5, 6] (fun u s wr => ∃ (L : List (List Int)) (p : Nat), s = .int .i64 p ∧ p ≤ bs.length ∧ Grew w wr ∧ Hid (Oks L ∧ p = (fl L).length ∧ bs = fl L ++ bs.drop p) ∧ Hid (Lw w.heap.size wr u L)) (fun _ s _ => bs.length - (intOf s).toNat)
  case atStart => exact ⟨[], 0, rfl, Nat.zero_le _, Grew.refl _, Lib.hid ⟨fun l hl => (by cases hl), rfl, rfl⟩, Lib.hid (Lw.nil _ _)⟩
  case round =>
    obtain ⟨L, p, rfl, hp, G, HB, OW⟩ := hrel
    have p0 : (0 : Int) ≤ (p : Int) := by omega
    have p1 : (p : Int) ≤ (bs.length : Int) := by omega
    have TT := (BX.out.grew G).sliced (l := p) (k := bs.length) (m := c) hp (Nat.le_refl _) hc
    rw [List.take_length] at TT
    by_cases hcp : c = p
    · rw [if_pos hcp, hcp, Nat.sub_self] at TT
      have F1 := Lib.hid (FI.out _ _ wr G TT (by rw [List.length_drop]; omega))
      have PE : Hid (p = bs.length) := Lib.hid (by omega)
      clear TT
      go_wp2_with fail
      refine (F1.out).mono ?_
      rintro e w1 ⟨g1, ⟨l, r, u, lo, hb, _, _⟩ | ⟨nf, u, k, rfl⟩⟩
      · exfalso
        have := congrArg List.length hb
        rw [List.length_drop, List.length_append, fr_len] at this
        have := PE.out
        omega
      · have NF := Lib.hid nf
        have G1 := Grew.trans G g1
        have O1 := Lib.hid (OW.out.grew g1)
        clear nf g1 OW F1
        go_wp2_with fail
        refine bodyPost_ret (v := .tuple #[u5, .int .i64 p, .int .i64 0]) (by simp [results, Tryd.results18, go_sem]) rfl ⟨G1, L, bs.drop p, _, HB.out.1, NF.out, HB.out.2.2, by rw [← HB.out.2.1], O1.out.ls⟩
    · rw [if_neg hcp, Nat.mul_one] at TT
      have F1 := Lib.hid (FI.out _ _ wr G TT (by rw [List.length_drop]; omega))
      clear TT
      go_wp2_with fail
      refine (F1.out).mono ?_
      rintro e w1 ⟨g1, ⟨l, r, u, lo, hb, rfl, is⟩ | ⟨nf, u, k, rfl⟩⟩
      · obtain ⟨ua, uc, rfl, _⟩ := is.shape
        have LO := Lib.hid lo
        have IS := Lib.hid is
        have O1 := Lib.hid (OW.out.grew g1)
        have G1 := Grew.trans G g1
        have NX := Lib.hid (next_f HB.out.1 HB.out.2.1 HB.out.2.2 lo hb)
        obtain ⟨n, hn0⟩ : ∃ n, n = (fr l).length := ⟨_, rfl⟩
        rw [← hn0] at NX ⊢
        have n1 : 12 ≤ n := by rw [hn0, fr_len]; have := lb_pos l; omega
        have n2 := NX.out.1
        have n3 : (n : Int) ≤ 200000 := by omega
        have LL : Hid (L.length ≤ 200000) := Lib.hid (by have := fl_len L; have := HB.out.2.1; omega)
        clear hb lo is g1 OW F1 hn0 G
        go_wp2_with (at_builtin; go_must (refine wpl_list _ rfl _ _ rfl w.heap.size _ L _ _ (.slice ua l.length uc) l rfl (by exact O1.out.grew ((Grew.refl _).alloc _ _)) rfl (by simp [go_sem]) (by exact IS.out.grew ((Grew.refl _).alloc _ _)) (by have := LL.out; omega) (by rw [World.size_alloc]; have := G1.size; omega) ?_; intro v' w' af; have AF := Lib.hid af; clear af))
        go_roundw
        case rel => exact ⟨L ++ [l], p + n, by go_num, n2, AF.out.grew w (Nat.le_refl _) (G1.alloc _ _), Lib.hid NX.out.2, Lib.hid AF.out.own⟩
        case measure => simp [intOf]; omega
      · have NF := Lib.hid nf
        have G1 := Grew.trans G g1
        have O1 := Lib.hid (OW.out.grew g1)
        clear nf g1 OW F1
        go_wp2_with fail
        refine bodyPost_ret (v := .tuple #[u5, .int .i64 p, .int .i64 0]) (by simp [results, Tryd.results18, go_sem]) rfl ⟨G1, L, bs.drop p, _, HB.out.1, NF.out, HB.out.2.2, by rw [← HB.out.2.1], O1.out.ls⟩
set_option maxHeartbeats 4000000 in
theorem c_frames_long (v : Value) (bs : List UInt8) (w : World) (hx : Bs w v bs) (hl : 200000 < bs.length) : Calls Tryd.prog 18 #[v] w fun e w' => e = .returned (.tuple #[.slice none 0 0, .int .i64 0, .int .i64 2]) ∧ Grew w w' := by
  obtain ⟨a, c, rfl, hc⟩ := hx.shape
  have l2 : (200000 : Int) < (bs.length : Int) := by omega
  clear hx
  go_enter Tryd.func18, Tryd.ntmps18
  go_wp2_with fail
  refine bodyPost_ret (v := .tuple #[.slice none 0 0, .int .i64 0, .int .i64 2]) (by simp [results, Tryd.results18, go_sem]) rfl ⟨rfl, Grew.refl _⟩
end Co
end Go.Proofs.YtljmdpjjieoedaaDoor
