/-
  For every region, place, two integers and slice of places the law RingWedge returns true; no condition but what the listed table holds.
-/
import Derived.WalkKit
import Derived.ProofKit
import Derived.OpenShut
import Derived.LaidMore
import Derived.Lay
import Derived.SevenTiedAt
import Derived.Stop.Joined
import Derived.Test.YtbpgfenippiepaaGreatDoorRows
import Derived.Test.YtbpgfenippiepaaGreatDoorCards
import Derived.Test.YtbpgfenippiepaaGreatDoorTie
import Derived.Test.YtbpgfenippiepaaGreatDoorRegSl
import Derived.Test.YtbpgfenippiepaaGreatDoorMinkLnG
import Derived.Test.YtbpgfenippiepaaGreatDoorRngLawE
import Derived.Test.YtbpgfenippiepaaGreatDoorRegN
namespace Go.Proofs.YtbpgfenippiepaaGreatDoor.ringWedge
open Go.ChangeShapes Go.WideShapes Go.ChangeAt Go.RowKit
set_option linter.unusedVariables false
theorem own:ownKnob Tryz.prog.godebug=none:=by kernel_rfl
set_option maxRecDepth 100000 in
theorem lifted (os:Os) (started:os.Started) (H:Type) (enc:TypeId × Value→H) :
  ReturnsInHanded {} Tryz.checked os 7 .any (fun w args => (Rows.ringWedgeSpec.pre enc Tryz.prog Tryz.f7 Rows.ringWedgeRow.domain false w args∧laidMetH Tryz.prog Rows.ringWedgeRow.laid w)∧sizedMet enc Tryz.prog Tryz.f7 (OpenSpec.ofChange Rows.ringWedgeSpec) false w args)
   (Rows.ringWedgeSpec.post enc Tryz.prog Tryz.f7 false true false false):=by
 refine returnsInHanded_of_change_and (C:=Tryz.checked) (X:=fun w _ => laidMetH Tryz.prog Rows.ringWedgeRow.laid w) (fun _ _ _ hh h => h.of_heap hh) own started (by kernel_rfl) Tryz.func7
  (ChangeSpec.witness_shaped (enc:=enc) (C:=Tryz.checked) (os:=os) (X:=fun w _ => laidMetH Tryz.prog Rows.ringWedgeRow.laid w) false (World.laidAll Tryz.prog os Rows.ringWedgeRow.laid) #[.slice none 0 0,.agg #[.int .i64 0,.int .i64 0],.int .i64 0,.int .i64 0,.slice none 0 0] 8 (World.laidAll_os _ _ _)
   (World.shaped_of_ZipB (by kernel_rfl) (by kernel_rfl)) (by kernel_rfl) (by kernel_rfl) (by kernel_rfl)
   (by rw [MakeChecks.laidMetH_plain _ _ _ (by kernel_rfl)];exact laidMet_laidAll _ (by kernel_rfl) (by kernel_rfl))) ?_
 intro W base args ds gs before hval0 hW hcnd _ hL _
 have hval:∀ (j:Nat) t v,Tryz.f7.params[j]? = some t→args[j]? = some v→Value.okWide Tryz.prog W .any base t v:=hval0
 have hW':=hW
 obtain ⟨p,q,hA0,hV,rfl,hfz,hnd⟩:=hW
 have hA:DataW.TrodAll enc Tryz.prog W 0 (fun _ => true) true Tryz.f7.params.toList args.toList ds p:=hA0
 have hAk:=hA
 rw [Tryz.params7] at hA hval
 obtain ⟨v0,vs0,d0,ds0,p0,q0,hargs,rfl,rfl,h0,r0⟩:=trodAll_cons hA
 obtain ⟨v1,vs1,d1,ds1,p1,q1,rfl,rfl,rfl,h1,r1⟩:=trodAll_cons r0
 obtain ⟨v2,vs2,d2,ds2,p2,q2,rfl,rfl,rfl,h2,r2⟩:=trodAll_cons r1
 obtain ⟨v3,vs3,d3,ds3,p3,q3,rfl,rfl,rfl,h3,r3⟩:=trodAll_cons r2
 obtain ⟨v4,vs4,d4,ds4,p4,q4,rfl,rfl,rfl,h4,r4⟩:=trodAll_cons r3
 obtain ⟨rfl,rfl,rfl⟩:=trodAll_nil r4
 obtain rfl:args = #[v0,v1,v2,v3,v4]:=by cases args;simp_all
 obtain ⟨rfl,rfl⟩:=trodVars_none hV
 obtain ⟨l0,s0⟩:=Rg.open_rgn (hval 0 22 v0 rfl rfl) h0
 obtain ⟨x1,rfl⟩:=Hl.open_point (hval 1 24 v1 rfl rfl) h1
 obtain ⟨n2,rfl,rfl,rfl,y2⟩:=open_int Tryz.underlying3 (hval 2 3 v2 rfl rfl) h2
 obtain ⟨n3,rfl,rfl,rfl,y3⟩:=open_int Tryz.underlying3 (hval 3 3 v3 rfl rfl) h3
 obtain ⟨l4,s4,m4⟩:=Hl.open_points (hval 4 48 v4 rfl rfl) h4
 clear hA0 hval0
 simp only [List.append_nil] at hW' hAk
 refine (Rn.wedge_true Rn.landed (Rg.rhasall_c Hl.landedN.toCode) (Rg.rvalid_c Hl.landedN.toCode) l0 x1 n2 n3 l4 v0 v4 W (Ry.laidTq W hL) s0 s4 (by simpa [maxLen] using m4)).mono fun e W' ⟨he,hg⟩ => ?_
 subst he
 exact ⟨_,rfl,Hl.post_grew (by rw [Tryz.params7];decide) hW' hAk rfl rfl rfl rfl (fun _ _ _ => (trodAll_cons_mk (shut_bool Tryz.underlying4 _) trodAll_mk0)) hg (ok_one (by kernel_rfl) rfl (okWide_bool_mk Tryz.underlying4 _))⟩
theorem over:Rows.ringWedgeRow.holds Tryz.pinned (OpenSpec.ofChange Rows.ringWedgeSpec) :=
 OpenClaim.holds_of_wide 7 Tryz.f7 rfl rfl rfl rfl rfl rfl rfl ⟨rfl,rfl,rfl,rfl,rfl⟩ rfl rfl rfl rfl rfl (by kernel_rfl) Tryz.func7 (by kernel_rfl)
  (of_decide_eq_true (by kernel_rfl)) (by unfold Func.isWrapper;first | (rw [if_pos (by decide +kernel)];kernel_rfl) | (rw [if_neg (by decide +kernel)];exact ⟨rfl,rfl⟩))
  (fun os started H enc _ => lifted os started H enc)
theorem proved:Rows.RingWedgeCardSaid :=
 Claim7.holds_tied_plain_at .later [] Rows.ringWedgeCard.laidKinds true Rows.ringWedgeCard.stood.harness false (over) (fun _ h => by cases h) (by kernel_rfl) (fun _ h => by cases h) ringWedge_row_tie rfl ⟨rfl,rfl⟩ (by kernel_rfl) rfl
  (fun f fn hf hfn => by
   obtain rfl:f = 7:=Option.some.inj ((show Tryz.prog.funcNamed "landfall/landfalllaw10.RingWedge" = some 7 by kernel_rfl).symm.trans hf) |>.symm
   obtain rfl:fn=Tryz.f7:=(Option.some.inj (Tryz.func7.symm.trans hfn)).symm
   exact ⟨by kernel_rfl,fun j t ht => by
    rw [Tryz.params7] at ht
    have hm:t ∈ [22,24,3,3,48]:=by simpa using Array.mem_of_getElem? ht
    have hall:([22,24,3,3,48].all fun u => !Tryz.prog.wantsStandIn u)=true:=by kernel_rfl
    exact (show Tryz.prog.wantsStandIn t=false by simpa using List.all_eq_true.1 hall t hm)⟩)
  (by kernel_rfl)
#print axioms proved
end Go.Proofs.YtbpgfenippiepaaGreatDoor.ringWedge
