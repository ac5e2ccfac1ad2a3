/-
  The reference implementation of layer 3 over slices of points: places, Valid.
-/
import Derived.Test.YtbpgfenippiepaaGreatDoorExactPlain
namespace Go.Proofs.YtbpgfenippiepaaGreatDoor
open Go.RowKit
namespace Hl
def Row (w:World) (b o:Nat) (p:List Pt):Prop:=b < w.heap.size∧∀ i,i < p.length→w.cell? ⟨b,o+i * 2,none⟩=some (.int .i64 (at' p i).1)∧w.cell? ⟨b,o+i * 2+1,none⟩=some (.int .i64 (at' p i).2)
theorem Row.grown {w w':World} {b o:Nat} {p:List Pt} (h:Row w b o p) (g:Grew w w'):Row w' b o p :=
 ⟨Nat.lt_of_lt_of_le h.1 g.size,fun i hi => ⟨(Grew.cell g h.1).trans (h.2 i hi).1,(Grew.cell g h.1).trans (h.2 i hi).2⟩⟩
def Tells (q:Prop) (w:World) (e:Ending) (w':World):Prop:=∃ r:Bool,e=.returned (.bool r)∧(r=true↔q)∧Grew w w'
theorem Tells.yes {q:Prop} {w:World} {e:Ending} {w':World} (hq:q) (he:e=.returned (.bool true)) (g:Grew w w'):Tells q w e w':=⟨true,he,⟨fun _ => hq,fun _ => rfl⟩,g⟩
theorem Tells.no {q:Prop} {w:World} {e:Ending} {w':World} (hq:¬ q) (he:e=.returned (.bool false)) (g:Grew w w'):Tells q w e w':=⟨false,he,⟨(fun h => by cases h),(fun h => absurd h hq)⟩,g⟩
theorem less_x (x y:Pt) (w:World):Calls Tryz.prog 116 #[.agg #[.int .i64 x.1,.int .i64 x.2],.agg #[.int .i64 y.1,.int .i64 y.2]] w fun e w' => e=.returned (.bool (decide (ls x y)))∧(w.alloc (.cells #[.int .i64 (x.1),.int .i64 (x.2)] 24)).alloc (.cells #[.int .i64 (y.1),.int .i64 (y.2)] 24)=w':=by
 rcases x with ⟨a,b⟩
 rcases y with ⟨c,d⟩
 by_cases h:ls (a,b) (c,d)
 ·rw [decide_eq_true h]
  rcases h with h | ⟨h,k⟩
  ·simp only at h
   go_enter Tryz.func116,Tryz.ntmps116
   go_wp2_with fail
   go_ret
   exact ⟨rfl,rfl⟩
  ·simp only at h k
   subst h
   go_enter Tryz.func116,Tryz.ntmps116
   go_wp2_with fail
   go_ret
   exact ⟨rfl,rfl⟩
 ·rw [decide_eq_false h]
  by_cases e:a=c
  ·subst e
   have k:d≤b:=by
    by_cases k:b < d
    ·exact absurd (Or.inr ⟨rfl,k⟩) h
    ·omega
   clear h
   go_enter Tryz.func116,Tryz.ntmps116
   go_wp2_with fail
   go_ret
   exact ⟨by first | rfl | (simp;omega),rfl⟩
  ·have k:c < a:=by
    by_cases k:a < c
    ·exact absurd (Or.inl k) h
    ·omega
   have e':(a == c)=false:=by simp [e]
   clear h e
   go_enter Tryz.func116,Tryz.ntmps116
   go_wp2_with fail
   go_ret
   exact ⟨by first | rfl | (simp;omega),rfl⟩
theorem cross_x (x y z:Pt) (w:World) (ha:Plc x) (hb:Plc y) (hc:Plc z):Calls Tryz.prog 89 #[.agg #[.int .i64 x.1,.int .i64 x.2],.agg #[.int .i64 y.1,.int .i64 y.2],.agg #[.int .i64 z.1,.int .i64 z.2]] w fun e w' => e=.returned (.int .i64 (cr x y z))∧((w.alloc (.cells #[.int .i64 (x.1),.int .i64 (x.2)] 24)).alloc (.cells #[.int .i64 (y.1),.int .i64 (y.2)] 24)).alloc (.cells #[.int .i64 (z.1),.int .i64 (z.2)] 24)=w':=by
 rcases x with ⟨a1,a2⟩
 rcases y with ⟨b1,b2⟩
 rcases z with ⟨c1,c2⟩
 obtain ⟨⟨m0,m1⟩,⟨m2,m3⟩⟩:=cr_bd ha hb hc
 obtain ⟨⟨p0,p1⟩,⟨p2,p3⟩⟩:=ha
 obtain ⟨⟨q0,q1⟩,⟨q2,q3⟩⟩:=hb
 obtain ⟨⟨r0,r1⟩,⟨r2,r3⟩⟩:=hc
 simp only at p0 p1 p2 p3 q0 q1 q2 q3 r0 r1 r2 r3 m0 m1 m2 m3
 go_enter Tryz.func89,Tryz.ntmps89
 go_wp2_with fail
 go_ret
 exact ⟨rfl,rfl⟩
theorem place_x (x:Pt) (w:World):Calls Tryz.prog 19 #[.agg #[.int .i64 x.1,.int .i64 x.2]] w fun e w' => e=.returned (.bool (decide (Plc x)))∧Grew w w':=by
 by_cases h:Plc x
 ·rw [decide_eq_true h];exact place_yes x.1 x.2 w h
 ·rw [decide_eq_false h];exact place_no x.1 x.2 w h
def Plcs (p:List Pt):Prop:=∀ i,i < p.length→Plc (at' p i)
set_option maxHeartbeats 400000 in
theorem places_any (p:List Pt) (b o c:Nat) (w:World) (hr:Row w b o p) (hl:p.length≤9223372036854775807):Calls Tryz.prog 115 #[.slice (some ⟨b,o,none⟩) p.length c] w (Tells (Plcs p) w):=by
 have HR:=Lib.hid hr
 clear hr
 go_enter Tryz.func115,Tryz.ntmps115
 go_wp2_with fail
 go_loopw [3] (fun i wr => ∃ k:Nat,k≤p.length∧i=.int .i64 k∧Grew w wr∧Hid (∀ j,j < k→Plc (at' p j))) (fun i _ => p.length - (intOf i).toNat)
 case atStart => exact ⟨0,Nat.zero_le _,rfl,Grew.refl _,Lib.hid (fun j hj => by omega)⟩
 case round =>
  obtain ⟨k,hk,rfl,G,D⟩:=hrel
  by_cases hlt:k < p.length
  ·obtain ⟨q0,q1⟩:=(HR.out.grown G).2 k hlt
   by_cases hp:Plc (at' p k)
   ·have HP:=Lib.hid hp
    have PX:Hid (∀ w,Calls Tryz.prog 19 #[.agg #[.int .i64 (at' p k).1,.int .i64 (at' p k).2]] w fun e w' => e=.returned (.bool true)∧Grew w w'):=Lib.hid (fun w => place_yes _ _ w hp)
    clear hp
    go_wp2_with fail
    refine (PX.out _).mono ?_
    rintro e w1 ⟨rfl,g1⟩
    have G1:Grew w w1:=Grew.trans G g1
    clear g1
    go_wp2_with fail
    go_roundw
    case rel => exact ⟨k+1,by omega,by go_num,G1,Lib.hid (fun j hj => by
     by_cases e:j=k
     ·rw [e];exact HP.out
     ·exact D.out j (by omega))⟩
    case measure => simp [intOf];omega
   ·have HP:=Lib.hid hp
    have PX:Hid (∀ w,Calls Tryz.prog 19 #[.agg #[.int .i64 (at' p k).1,.int .i64 (at' p k).2]] w fun e w' => e=.returned (.bool false)∧Grew w w'):=Lib.hid (fun w => place_no _ _ w hp)
    clear hp
    go_wp2_with fail
    refine (PX.out _).mono ?_
    rintro e w1 ⟨rfl,g1⟩
    have G1:Grew w w1:=Grew.trans G g1
    clear g1
    go_wp2_with fail
    go_ret
    exact Tells.no (fun h => HP.out (h k hlt)) rfl G1
  ·go_wp2_with fail
   go_ret
   exact Tells.yes (fun i hi => D.out i (by omega)) rfl G
def Vl (p:List Pt):Prop:=(1≤p.length∧p.length≤64)∧Plcs p∧(∀ i,1≤i→i < p.length→ls (at' p 0) (at' p i))∧(2 < p.length→Cvx p.length (at' p))
set_option maxRecDepth 100000 in
set_option maxHeartbeats 4000000 in
theorem valid_any (p:List Pt) (b o c:Nat) (w:World) (hr:Row w b o p) (hl:p.length≤9223372036854775807):Calls Tryz.prog 70 #[.slice (some ⟨b,o,none⟩) p.length c] w (Tells (Vl p) w):=by
 by_cases h1:p.length < 1
 ·have H:Hid (¬ Vl p):=Lib.hid (fun h => by have:=h.1.1;omega)
  go_enter Tryz.func70,Tryz.ntmps70
  go_wp2_with fail
  go_ret
  exact Tells.no H.out rfl (Grew.refl _)
 ·by_cases h2:64 < p.length
  ·have H:Hid (¬ Vl p):=Lib.hid (fun h => by have:=h.1.2;omega)
   go_enter Tryz.func70,Tryz.ntmps70
   go_wp2_with fail
   go_ret
   exact Tells.no H.out rfl (Grew.refl _)
  ·have h1:1≤p.length:=by omega
   have h2:p.length≤64:=by omega
   have LEN:Hid (1≤p.length∧p.length≤64):=Lib.hid ⟨h1,h2⟩
   have PA:=Lib.hid (places_any p b o c w hr hl)
   have HR:=Lib.hid hr
   clear hr hl
   go_enter Tryz.func70,Tryz.ntmps70
   go_wp2_with fail
   refine PA.out.mono ?_
   rintro e w1 ⟨r,rfl,hr,g1⟩
   cases r
   ·have H:Hid (¬ Vl p):=Lib.hid (fun h => by have:=hr.2 h.2.1;cases this)
    clear hr PA
    go_wp2_with fail
    go_ret
    exact Tells.no H.out rfl g1
   ·have PL:Hid (Plcs p):=Lib.hid (hr.1 rfl)
    clear hr PA
    go_wp2_with fail
    obtain ⟨q0,q1⟩:=(HR.out.grown g1).2 0 (by omega)
    rw [Nat.zero_mul,Nat.add_zero] at q0 q1
    go_loopw [4] (fun i wr => ∃ k:Nat,1≤k∧k≤p.length∧i=.int .i64 k∧Grew w wr∧Hid (∀ j,1≤j→j < k→ls (at' p 0) (at' p j))) (fun i _ => p.length - (intOf i).toNat)
    case atStart => exact ⟨1,by omega,by omega,rfl,g1,Lib.hid (fun j hj => by omega)⟩
    case round =>
     obtain ⟨k,hk1,hk,rfl,G,D⟩:=hrel
     by_cases hlt:k < p.length
     ·obtain ⟨s0,s1⟩:=(HR.out.grown G).2 k hlt
      obtain ⟨t0,t1⟩:=(HR.out.grown G).2 0 (by omega)
      rw [Nat.zero_mul,Nat.add_zero] at t0 t1
      have hb:=(HR.out.grown G).1
      clear q0 q1
      have i0:0 < p.length:=by omega
      have i1:(0:Int) < (p.length:Int):=by omega
      have i2:(k:Int) < (p.length:Int):=by omega
      have i3:(0:Int)≤(k:Int):=by omega
      by_cases hp:ls (at' p 0) (at' p k)
      ·have HP:=Lib.hid hp
       have LX:Hid (∀ w,Calls Tryz.prog 116 #[.agg #[.int .i64 (at' p 0).1,.int .i64 (at' p 0).2],.agg #[.int .i64 (at' p k).1,.int .i64 (at' p k).2]] w fun e w' => e=.returned (.bool true)∧(w.alloc (.cells #[.int .i64 (at' p 0).1,.int .i64 (at' p 0).2] 24)).alloc (.cells #[.int .i64 (at' p k).1,.int .i64 (at' p k).2] 24)=w'):=Lib.hid (fun w => by have h:=less_x (at' p 0) (at' p k) w;rwa [decide_eq_true hp] at h)
       clear hp
       go_wp2_with fail
       go_region_held3 (fun w' => w'.cell? ⟨b,o,none⟩=some (.int .i64 (at' p 0).1)∧w'.cell? ⟨b,o+1,none⟩=some (.int .i64 (at' p 0).2)∧w'.cell? ⟨b,o+k * 2,none⟩=some (.int .i64 (at' p k).1)∧w'.cell? ⟨b,o+k * 2+1,none⟩=some (.int .i64 (at' p k).2)) (simp [go_sem, *])
        (first | (go_at_call 116;refine (LX.out _).mono ?_;rintro e w' ⟨rfl,rfl⟩))
       go_wp2_with fail
       go_roundw
       case rel => exact ⟨k+1,by omega,by omega,by go_num,by exact gw,Lib.hid (fun j hj1 hj => by
        by_cases e:j=k
        ·rw [e];exact HP.out
        ·exact D.out j hj1 (by omega))⟩
       case measure => simp [intOf];omega
      ·have HP:=Lib.hid hp
       have LX:Hid (∀ w,Calls Tryz.prog 116 #[.agg #[.int .i64 (at' p 0).1,.int .i64 (at' p 0).2],.agg #[.int .i64 (at' p k).1,.int .i64 (at' p k).2]] w fun e w' => e=.returned (.bool false)∧(w.alloc (.cells #[.int .i64 (at' p 0).1,.int .i64 (at' p 0).2] 24)).alloc (.cells #[.int .i64 (at' p k).1,.int .i64 (at' p k).2] 24)=w'):=Lib.hid (fun w => by have h:=less_x (at' p 0) (at' p k) w;rwa [decide_eq_false hp] at h)
       clear hp
       go_wp2_with fail
       go_region_held3 (fun w' => w'.cell? ⟨b,o,none⟩=some (.int .i64 (at' p 0).1)∧w'.cell? ⟨b,o+1,none⟩=some (.int .i64 (at' p 0).2)∧w'.cell? ⟨b,o+k * 2,none⟩=some (.int .i64 (at' p k).1)∧w'.cell? ⟨b,o+k * 2+1,none⟩=some (.int .i64 (at' p k).2)) (simp [go_sem, *])
        (first | (go_at_call 116;refine (LX.out _).mono ?_;rintro e w' ⟨rfl,rfl⟩))
       go_wp2_with fail
       go_ret
       exact Tells.no (fun h => HP.out (h.2.2.1 k hk1 hlt)) rfl gw
     ·have L:Hid (∀ i,1≤i→i < p.length→ls (at' p 0) (at' p i)):=Lib.hid (fun i hi hl => D.out i hi (by omega))
      clear D q0 q1
      by_cases hn:2 < p.length
      ·have hn3:(2:Int) < (p.length:Int):=by omega
       go_wp2_with fail
       clear h1 h2
       obtain ⟨wo,rfl⟩:∃ wo:World,wo=wr:=⟨_,rfl⟩
       go_loopw [5] (fun i wr => ∃ k:Nat,k≤p.length∧i=.int .i64 k∧Grew w wr∧Hid (∀ a l,a < k→l < p.length→l ≠ a→l ≠ (a+1) % p.length→0 < cr (at' p a) (at' p ((a+1) % p.length)) (at' p l))) (fun i _ => p.length - (intOf i).toNat)
       case atStart => exact ⟨0,by omega,rfl,by exact gw,Lib.hid (fun a l ha => by omega)⟩
       case round =>
        clear G
        obtain ⟨k,hk,rfl,G,D⟩:=hrel
        by_cases hlt:k < p.length
        ·go_wp2_with fail
         obtain ⟨wo2,rfl⟩:∃ wo2:World,wo2=wr:=⟨_,rfl⟩
         go_loopw [6] (fun j wr => ∃ l:Nat,l≤p.length∧j=.int .i64 l∧Grew w wr∧Hid (∀ m,m < l→m ≠ k→m ≠ (k+1) % p.length→0 < cr (at' p k) (at' p ((k+1) % p.length)) (at' p m))) (fun j _ => p.length - (intOf j).toNat)
         case atStart => exact ⟨0,by omega,rfl,by exact gw,Lib.hid (fun m hm => by omega)⟩
         case round =>
          clear G
          obtain ⟨l,hl,rfl,G,E⟩:=hrel
          by_cases hll:l < p.length
          ·obtain ⟨m,hm⟩:∃ m,(k+1) % p.length=m:=⟨_,rfl⟩
           have hmm:m < p.length:=by rw [← hm];exact Nat.mod_lt _ (by omega)
           have TM:Hid (((k:Int)+1).tmod (p.length:Int)=(m:Int)):=Lib.hid (by
            rw [← hm,Int.natCast_emod,Int.natCast_add]
            exact Int.tmod_eq_emod_of_nonneg (by omega))
           have WK:Hid (IntKind.i64.wrap ((k:Int)+1)=(k:Int)+1):=Lib.hid (IntWalk.i64_in _ ⟨by omega,by omega⟩)
           have nz:(p.length:Int) ≠ 0:=by omega
           have HM:=Lib.hid hm
           clear hm
           by_cases e1:l=k
           ·have E2:Hid (∀ m,m < l+1→m ≠ k→m ≠ (k+1) % p.length→0 < cr (at' p k) (at' p ((k+1) % p.length)) (at' p m)):=Lib.hid (fun a ha h1 h2 => E.out a (by omega) h1 h2)
            clear TM WK
            subst e1
            go_wp2_with fail
            go_quiet (fail)
            go_wp2_with fail
            go_roundw
            case rel => exact ⟨l+1,by omega,by go_num,Grew.drewN G _,E2⟩
            case measure => simp [intOf];omega
           ·by_cases e2:l=m
            ·have E2:Hid (∀ m,m < l+1→m ≠ k→m ≠ (k+1) % p.length→0 < cr (at' p k) (at' p ((k+1) % p.length)) (at' p m)):=Lib.hid (fun a ha h1 h2 => E.out a (by have:=HM.out;omega) h1 h2)
             have d1:((l:Int) != (k:Int))=true:=by rw [bne_iff_ne];omega
             have d1':((l:Int) == (k:Int))=false:=by rw [beq_eq_false_iff_ne];omega
             clear e1
             subst e2
             have TM':=TM.out
             have WK':=WK.out
             go_wp2_with fail
             go_quiet (fail)
             clear TM' WK'
             go_wp2_with fail
             go_roundw
             case rel => exact ⟨l+1,by omega,by go_num,Grew.drewN G _,E2⟩
             case measure => simp [intOf];omega
            ·have d1:((l:Int) != (k:Int))=true:=by rw [bne_iff_ne];omega
             have d1':((l:Int) == (k:Int))=false:=by rw [beq_eq_false_iff_ne];omega
             have d2:((l:Int) != (m:Int))=true:=by rw [bne_iff_ne];omega
             have d2':((l:Int) == (m:Int))=false:=by rw [beq_eq_false_iff_ne];omega
             have N:=Lib.hid (And.intro e1 e2)
             clear e1 e2
             obtain ⟨s0,s1⟩:=(HR.out.grown G).2 k hlt
             obtain ⟨s2,s3⟩:=(HR.out.grown G).2 m hmm
             obtain ⟨s4,s5⟩:=(HR.out.grown G).2 l hll
             have hb:=(HR.out.grown G).1
             have i1:(k:Int) < (p.length:Int):=by omega
             have i2:(m:Int) < (p.length:Int):=by omega
             have i3:(l:Int) < (p.length:Int):=by omega
             have hb1:b < wr.heap.size+1:=by omega
             have hb2:b < wr.heap.size+1+1:=by omega
             obtain ⟨z,hz⟩:∃ z,cr (at' p k) (at' p m) (at' p l)=z:=⟨_,rfl⟩
             have CX:Hid (∀ w,Calls Tryz.prog 89 #[.agg #[.int .i64 (at' p k).1,.int .i64 (at' p k).2],.agg #[.int .i64 (at' p m).1,.int .i64 (at' p m).2],.agg #[.int .i64 (at' p l).1,.int .i64 (at' p l).2]] w fun e w' => e=.returned (.int .i64 z)∧((w.alloc (.cells #[.int .i64 (at' p k).1,.int .i64 (at' p k).2] 24)).alloc (.cells #[.int .i64 (at' p m).1,.int .i64 (at' p m).2] 24)).alloc (.cells #[.int .i64 (at' p l).1,.int .i64 (at' p l).2] 24)=w'):=Lib.hid (fun w => by rw [← hz];exact cross_x _ _ _ w (PL.out k hlt) (PL.out m hmm) (PL.out l hll))
             have HZ:=Lib.hid hz
             clear hz
             have TM':=TM.out
             have TM2:((k:Int)+1) % (p.length:Int)=(m:Int):=by rw [← TM.out];exact (Int.tmod_eq_emod_of_nonneg (by omega)).symm
             have WK':=WK.out
             have nz2:((p.length:Int) == 0)=false:=by rw [beq_eq_false_iff_ne];omega
             have nz3:¬ p.length=0:=by omega
             have k0:(0:Int)≤(k:Int)+1:=by omega
             by_cases hc:0 < z
             ·have E2:Hid (∀ m,m < l+1→m ≠ k→m ≠ (k+1) % p.length→0 < cr (at' p k) (at' p ((k+1) % p.length)) (at' p m)):=Lib.hid (fun a ha h1 h2 => by
               by_cases e:a=l
               ·rw [e,HM.out,HZ.out];exact hc
               ·exact E.out a (by omega) h1 h2)
              go_wp2_with fail
              go_region_held3 (fun w' => w'.cell? ⟨b,o+k * 2,none⟩=some (.int .i64 (at' p k).1)∧w'.cell? ⟨b,o+k * 2+1,none⟩=some (.int .i64 (at' p k).2)∧w'.cell? ⟨b,o+m * 2,none⟩=some (.int .i64 (at' p m).1)∧w'.cell? ⟨b,o+m * 2+1,none⟩=some (.int .i64 (at' p m).2)∧w'.cell? ⟨b,o+l * 2,none⟩=some (.int .i64 (at' p l).1)∧w'.cell? ⟨b,o+l * 2+1,none⟩=some (.int .i64 (at' p l).2)) (simp [go_sem,hb,hb1,hb2,s0,s1,s2,s3,s4,s5])
               (first | (go_at_call 89;refine (CX.out _).mono ?_;rintro e w' ⟨rfl,rfl⟩))
              clear TM' WK' TM2
              go_wp2_with fail
              go_roundw
              case rel => exact ⟨l+1,by omega,by go_num,by exact gw,E2⟩
              case measure => simp [intOf];omega
             ·have hc':z≤0:=by omega
              clear hc
              go_wp2_with fail
              go_region_held3 (fun w' => w'.cell? ⟨b,o+k * 2,none⟩=some (.int .i64 (at' p k).1)∧w'.cell? ⟨b,o+k * 2+1,none⟩=some (.int .i64 (at' p k).2)∧w'.cell? ⟨b,o+m * 2,none⟩=some (.int .i64 (at' p m).1)∧w'.cell? ⟨b,o+m * 2+1,none⟩=some (.int .i64 (at' p m).2)∧w'.cell? ⟨b,o+l * 2,none⟩=some (.int .i64 (at' p l).1)∧w'.cell? ⟨b,o+l * 2+1,none⟩=some (.int .i64 (at' p l).2)) (simp [go_sem,hb,hb1,hb2,s0,s1,s2,s3,s4,s5])
               (first | (go_at_call 89;refine (CX.out _).mono ?_;rintro e w' ⟨rfl,rfl⟩))
              clear TM' WK' TM2
              go_wp2_with fail
              go_ret
              exact Tells.no (fun h => by
               have:=h.2.2.2 hn k l hlt hll N.out.1 (by rw [HM.out];exact N.out.2)
               rw [HM.out,HZ.out] at this
               omega) rfl gw
          ·have D2:Hid (∀ a l,a < k+1→l < p.length→l ≠ a→l ≠ (a+1) % p.length→0 < cr (at' p a) (at' p ((a+1) % p.length)) (at' p l)):=Lib.hid (fun a c ha hc h1 h2 => by
            by_cases e:a=k
            ·have h1':c ≠ k:=by rw [← e];exact h1
             have h2':c ≠ (k+1) % p.length:=by rw [← e];exact h2
             rw [e];exact E.out c (by omega) h1' h2'
            ·exact D.out a c (by omega) hc h1 h2)
           go_wp2_with fail
           go_roundw
           case rel => exact ⟨k+1,by omega,by go_num,G,D2⟩
           case measure => simp [intOf];omega
        ·go_wp2_with fail
         go_ret
         exact Tells.yes ⟨LEN.out,PL.out,L.out,fun _ a c ha hc h1 h2 => D.out a c (by omega) hc h1 h2⟩ rfl G
      ·have hn':(p.length:Int)≤2:=by omega
       go_wp2_with fail
       refine wp_loop_rounds 1 ?_
       rw [rounds_succ]
       go_wp2_with fail
       go_ret
       exact Tells.yes ⟨LEN.out,PL.out,L.out,fun h => absurd h hn⟩ rfl G
end Hl
end Go.Proofs.YtbpgfenippiepaaGreatDoor
