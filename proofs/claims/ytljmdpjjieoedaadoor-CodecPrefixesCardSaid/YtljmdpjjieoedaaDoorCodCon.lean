/-
  What package codec owes, and what follows where the answer is known; the landed package and the reference pay it.
-/
import Derived.Test.YtljmdpjjieoedaaDoorCodRefD
namespace Go.Proofs.YtljmdpjjieoedaaDoor
open Go.RowKit Wd
namespace Co

/-- What the four functions owe, in worlds that meet T. -/
structure Fns (T : World → Prop) (fp fg ff fs : Nat) : Prop where
  put : ∀ (l : List Int) (v : Value) (w : World), T w → Is w v l → l.length ≤ 4000 → Calls Tryd.prog fp #[v] w (PutSays l w)
  putL : ∀ (l : List Int) (v : Value) (w : World), T w → Is w v l → 4000 < l.length → Calls Tryd.prog fp #[v] w fun e w' => e = .returned (.tuple #[.slice none 0 0, .int .i64 2]) ∧ Grew w w'
  get : ∀ (bs : List UInt8) (v : Value) (w : World), T w → Bs w v bs → bs.length ≤ 1000000 → Calls Tryd.prog fg #[v] w (GetSays bs w)
  frame : ∀ (l : List Int) (v : Value) (w : World), T w → Is w v l → l.length ≤ 4000 → Calls Tryd.prog ff #[v] w (FrameSays l w)
  frameL : ∀ (l : List Int) (v : Value) (w : World), T w → Is w v l → 4000 < l.length → Calls Tryd.prog ff #[v] w fun e w' => e = .returned (.tuple #[.slice none 0 0, .int .i64 2]) ∧ Grew w w'
  frames : ∀ (bs : List UInt8) (v : Value) (w : World), T w → Bs w v bs → bs.length ≤ 200000 → Calls Tryd.prog fs #[v] w (FramesSays bs w)
  framesL : ∀ (bs : List UInt8) (v : Value) (w : World), T w → Bs w v bs → 200000 < bs.length → Calls Tryd.prog fs #[v] w fun e w' => e = .returned (.tuple #[.slice none 0 0, .int .i64 0, .int .i64 2]) ∧ Grew w w'
/-- What package codec owes. -/
structure Code (T : World → Prop) : Prop where
  keep : ∀ W w, Grew W w → T W → T w
  fns : Fns T 10 15 13 18
theorem landed : Code Dg.Tu :=
  ⟨fun _ _ g h => h.grew g, ⟨fun l v w _ hs hl => c_put l v w hs hl, fun l v w _ hs hl => c_put_long l v w hs hl, fun bs v w _ hx hl => c_get v bs w hx hl, fun l v w hT hs hl => c_frame l v w hT hs hl, fun l v w _ hs hl => c_frame_long l v w hs hl, fun bs v w hT hx hl => c_frames v bs w hT hx hl, fun bs v w _ hx hl => c_frames_long v bs w hx hl⟩⟩
theorem ref (T : World → Prop) : Fns T 11 16 14 19 :=
  ⟨fun l v w _ hs hl => r_put l v w hs hl, fun l v w _ hs hl => r_put_long l v w hs hl, fun bs v w _ hx hl => r_get v bs w hx hl, fun l v w _ hs hl => r_frame l v w hs hl, fun l v w _ hs hl => r_frame_long l v w hs hl, fun bs v w _ hx hl => r_frames v bs w hx hl, fun bs v w _ hx hl => r_frames_long v bs w hx hl⟩

/-! ### Known answers -/
def GetYes (l : List Int) (w : World) (e : Ending) (w' : World) : Prop := ∃ u, e = .returned (.tuple #[u, .int .i64 0]) ∧ Is w' u l ∧ Grew w w'
def GetNo (w : World) (e : Ending) (w' : World) : Prop := e = .returned (.tuple #[.slice none 0 0, .int .i64 7]) ∧ Grew w w'
def FramesAre (L : List (List Int)) (w : World) (e : Ending) (w' : World) : Prop := ∃ u, e = .returned (.tuple #[u, .int .i64 ((fl L).length : Int), .int .i64 0]) ∧ Ls w' u L ∧ Grew w w'
theorem GetSays.yes {bs : List UInt8} {l : List Int} {w w' : World} {e : Ending} (h : GetSays bs w e w') (hl : Lok l) (hb : bs = lb l) : GetYes l w e w' := by
  obtain ⟨g, ⟨k, u, _, hk, he, is⟩ | ⟨nl, _⟩⟩ := h
  · rw [hb] at hk
    rw [lb_inj hk]
    exact ⟨u, he, is, g⟩
  · exact absurd hb (nl l hl)
theorem GetSays.no {bs : List UInt8} {w w' : World} {e : Ending} (h : GetSays bs w e w') (hn : NoL bs) : GetNo w e w' := by
  obtain ⟨g, ⟨k, u, ok, hk, _, _⟩ | ⟨_, he⟩⟩ := h
  · exact absurd hk (hn k ok)
  · exact ⟨he, g⟩
theorem FramesSays.are {bs : List UInt8} {L : List (List Int)} {r : List UInt8} {w w' : World} {e : Ending} (h : FramesSays bs w e w') (hL : Oks L) (hr : NoF r) (hb : bs = fl L ++ r) : FramesAre L w e w' := by
  obtain ⟨g, K, s, u, hK, hs, hk, he, is⟩ := h
  rw [hb] at hk
  obtain ⟨rfl, _⟩ := fl_free L K r s hL hK hr hs hk
  exact ⟨u, he, is, g⟩
theorem list_ex (bs : List UInt8) : (∃ l, Lok l ∧ bs = lb l) ∨ NoL bs := by
  by_cases h : ∃ l, Lok l ∧ bs = lb l
  · exact Or.inl h
  · exact Or.inr fun l hl e => h ⟨l, hl, e⟩
theorem frames_ex : ∀ (n : Nat) (bs : List UInt8), bs.length ≤ n → ∃ L r, Oks L ∧ NoF r ∧ bs = fl L ++ r
  | n, bs, hn => by
    by_cases h : ∃ l r, Lok l ∧ bs = fr l ++ r
    · obtain ⟨l, r, hl, rfl⟩ := h
      rw [List.length_append, fr_len] at hn
      match n, hn with
      | 0, hn => omega
      | n + 1, hn =>
        obtain ⟨L, s, hL, hs, rfl⟩ := frames_ex n r (by omega)
        refine ⟨l :: L, s, fun x hx => ?_, hs, by rw [fl_cons, List.append_assoc]⟩
        rcases List.mem_cons.1 hx with rfl | hx
        · exact hl
        · exact hL x hx
    · exact ⟨[], bs, fun x hx => (by cases hx), fun l r hl e => h ⟨l, r, hl, e⟩, rfl⟩
end Co
end Go.Proofs.YtljmdpjjieoedaaDoor
