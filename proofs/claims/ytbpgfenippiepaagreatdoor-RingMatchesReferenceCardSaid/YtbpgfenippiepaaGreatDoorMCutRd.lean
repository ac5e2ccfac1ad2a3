/-
  The reference function Crossings of layer 4.
-/
import Derived.Test.YtbpgfenippiepaaGreatDoorMCutRb
namespace Go.Proofs.YtbpgfenippiepaaGreatDoor
open Go.RowKit Hl Ex
namespace Ct
set_option maxRecDepth 100000
def croF (q:List Pt) (a b:Pt) (k:Nat):List Pt:=if Df (cr (at' q k) (at' q ((k+1) % q.length)) a) (cr (at' q k) (at' q ((k+1) % q.length)) b) then crL (at' q k) (at' q ((k+1) % q.length)) (cr a b (at' q k)) (cr a b (at' q ((k+1) % q.length))) else []
def croJ (q:List Pt) (a b:Pt) (k:Nat):List Pt:=(List.range k).flatMap (croF q a b)
def croK (p q:List Pt) (i:Nat):List Pt:=(List.range i).flatMap fun i => croJ q (at' p i) (at' p ((i+1) % p.length)) q.length
def croL (p q:List Pt):List Pt:=croK p q p.length
theorem croF_len (q:List Pt) (a b:Pt) (k:Nat):(croF q a b k).length≤4:=by
 unfold croF
 split
 ·exact crL_four _ _ _ _
 ·simp
theorem croJ_len (q:List Pt) (a b:Pt) (k:Nat):(croJ q a b k).length≤4 * k:=flat_le _ 4 (croF_len q a b) k
theorem croK_len (p q:List Pt) (i:Nat) (hq:q.length≤64):(croK p q i).length≤256 * i:=flat_le _ 256 (fun i => by have:=croJ_len q (at' p i) (at' p ((i+1) % p.length)) q.length;omega) i
theorem croJ_succ (q:List Pt) (a b:Pt) (k:Nat):croJ q a b (k+1)=croJ q a b k ++ croF q a b k:=flat_snoc _ k
theorem croK_succ (p q:List Pt) (i:Nat):croK p q (i+1)=croK p q i ++ croJ q (at' p i) (at' p ((i+1) % p.length)) q.length:=flat_snoc _ i
def CroSays (p q:List Pt) (w:World) (e:Ending) (w':World):Prop:=∃ v,e=.returned v∧Hl.Own w.heap.size w' v (croL p q)∧Grew w w'
theorem cr_big {a b x:Pt} (ha:Plc a) (hb:Plc b) (hx:Plc x):-2000000000000≤cr a b x∧cr a b x≤2000000000000:=by
 obtain ⟨⟨a0,a1⟩,a2,a3⟩:=ha
 obtain ⟨⟨b0,b1⟩,b2,b3⟩:=hb
 obtain ⟨⟨x0,x1⟩,x2,x3⟩:=hx
 have m1:=mul_bd (x:=b.1 - a.1) (y:=x.2 - a.2) (a:=1000000) (b:=1000000) (by omega) (by omega)
 have m2:=mul_bd (x:=b.2 - a.2) (y:=x.1 - a.1) (a:=1000000) (b:=1000000) (by omega) (by omega)
 unfold cr
 omega
theorem own_ne {B:Nat} {w:World} {v:Value} {l:List Pt} (h:Hl.Own B w v l) (h2:2≤l.length) {n:Nat} {x y:Value} {t:TypeId} (hb:Blk w n #[x,y] t):v.ownBlock ≠ some n:=by
 intro e
 obtain ⟨g,cap,rfl,hc,hl,hm,cur,h4,h5,_⟩:=Own.at h (fun e => by rw [e] at h2;exact absurd h2 (by decide))
 have e':g=n:=Option.some.inj e
 subst e'
 have hb':w.heap[g]? = some (.cells #[x,y] t (0,0)):=hb
 rw [h4] at hb'
 injection hb' with hb'
 injection hb' with hb'
 rw [hb'] at h5
 have:(#[x,y]:Array Value).size=2:=rfl
 omega
theorem crL_is {a b:Pt} {s t:Int} (h:Df s t):(crL a b s t).length=4:=by
 unfold crL
 rcases h with h | h
 ·rw [if_pos h];rfl
 ·rw [if_neg (by omega),if_pos h];rfl
set_option maxHeartbeats 16000000 in
theorem crossings_r (p q:List Pt) (b o c b' o' c':Nat) (w:World) (hr:Row w b o p) (hr':Row w b' o' q) (hp:Vl p) (hq:Vl q):Calls Tryz.prog 159 #[.slice (some ⟨b,o,none⟩) p.length c,.slice (some ⟨b',o',none⟩) q.length c'] w (CroSays p q w):=by
 have HR:=Lib.hid hr
 have HR':=Lib.hid hr'
 have CC:Hid (∀ x y z W,Plc x→Plc y→Plc z→Calls Tryz.prog 89 #[.agg #[.int .i64 x.1,.int .i64 x.2],.agg #[.int .i64 y.1,.int .i64 y.2],.agg #[.int .i64 z.1,.int .i64 z.2]] W fun e w' => e=.returned (.int .i64 (cr x y z))∧((W.alloc (.cells #[.int .i64 x.1,.int .i64 x.2] 24)).alloc (.cells #[.int .i64 y.1,.int .i64 y.2] 24)).alloc (.cells #[.int .i64 z.1,.int .i64 z.2] 24)=w'):=Lib.hid (fun x y z W hx hy hz => cross_x x y z W hx hy hz)
 have DC:=Lib.hid differ_c
 have PL:=Lib.hid hp.2.1
 have PL':=Lib.hid hq.2.1
 have LJ:=Lib.hid (fun a b k => croJ_len q a b k)
 have LK:=Lib.hid (fun i => croK_len p q i hq.1.2)
 have L64:Hid (p.length≤64∧q.length≤64):=Lib.hid ⟨hp.1.2,hq.1.2⟩
 have h64:(p.length:Int)≤64:=by have:=hp.1.2;omega
 have h65:(q.length:Int)≤64:=by have:=hq.1.2;omega
 clear hr hr' hp hq
 go_enter Tryz.func159,Tryz.ntmps159
 go_wp2_with fail
 go_loopw [5,6] (fun u x wr => ∃ (i:Nat) (ou:Value),i≤p.length∧x=.int .i64 i∧ou=u∧Grew w wr∧Hid (Hl.Own w.heap.size wr u (croK p q i))) (fun _ x _ => p.length - (intOf x).toNat)
 case atStart => exact ⟨0,_,Nat.zero_le _,rfl,rfl,Grew.refl _,Lib.hid (Own.nil _ _)⟩
 case round =>
  obtain ⟨i,ou,hk,rfl,rfl,G,OW⟩:=hrel
  by_cases hlt:i < p.length
  ·obtain ⟨i',hi'⟩:∃ m,(i+1) % p.length=m:=⟨_,rfl⟩
   have im:i' < p.length:=by rw [← hi'];exact Nat.mod_lt _ (by omega)
   have TMi:((i:Int)+1).tmod (p.length:Int)=(i':Int):=by
    rw [← hi',Int.natCast_emod,Int.natCast_add]
    exact Int.tmod_eq_emod_of_nonneg (by omega)
   have WKi:IntKind.i64.wrap ((i:Int)+1)=(i:Int)+1:=IntWalk.i64_in _ ⟨by omega,by omega⟩
   have TNi:((i:Int)+1) % (p.length:Int)=(i':Int):=by rw [← TMi];exact (Int.tmod_eq_emod_of_nonneg (by omega)).symm
   have nai:(p.length:Int) ≠ 0:=by omega
   have nbi:((p.length:Int) == 0)=false:=by rw [beq_eq_false_iff_ne];omega
   have nci:¬ p.length=0:=by omega
   have ndi:(0:Int)≤(i:Int)+1:=by omega
   have SU:=Lib.hid (by have g:=croK_succ p q i;rw [hi'] at g;exact g)
   clear hi'
   have RW:=Lib.hid (HR.out.grown G)
   obtain ⟨s0,s1⟩:=RW.out.2 i hlt
   obtain ⟨s2,s3⟩:=RW.out.2 i' im
   have hb:=RW.out.1
   have hb1:b < wr.heap.size+1:=by omega
   have i0:(0:Int)≤(i:Int):=by omega
   have i1:(i:Int) < (p.length:Int):=by omega
   have i2:(i':Int) < (p.length:Int):=by omega
   have PA:=Lib.hid (PL.out i hlt)
   have PB:=Lib.hid (PL.out i' im)
   have LKi:=Lib.hid (LK.out i)
   have HLI:=Lib.hid hlt
   obtain ⟨V,rfl⟩:∃ V,V=wr:=⟨wr,rfl⟩
   have XA:=Lib.hid ((Blk.new V #[.int .i64 (at' p i).1,.int .i64 (at' p i).2] 24).alloc (.cells #[.int .i64 (at' p i').1,.int .i64 (at' p i').2] 24))
   have XB:=Lib.hid (show Blk ((V.alloc (.cells #[.int .i64 (at' p i).1,.int .i64 (at' p i).2] 24)).alloc (.cells #[.int .i64 (at' p i').1,.int .i64 (at' p i').2] 24)) (V.heap.size+1) #[.int .i64 (at' p i').1,.int .i64 (at' p i').2] 24 from by have g:=Blk.new (V.alloc (.cells #[.int .i64 (at' p i).1,.int .i64 (at' p i).2] 24)) #[.int .i64 (at' p i').1,.int .i64 (at' p i').2] 24;rw [World.size_alloc] at g;exact g)
   have GA:=Lib.hid (show Grew w ((V.alloc (.cells #[.int .i64 (at' p i).1,.int .i64 (at' p i).2] 24)).alloc (.cells #[.int .i64 (at' p i').1,.int .i64 (at' p i').2] 24)) from (G.alloc _ _).alloc _ _)
   have OWA:=Lib.hid (show Hl.Own w.heap.size ((V.alloc (.cells #[.int .i64 (at' p i).1,.int .i64 (at' p i).2] 24)).alloc (.cells #[.int .i64 (at' p i').1,.int .i64 (at' p i').2] 24)) ou (croK p q i ++ croJ q (at' p i) (at' p i') 0) from by rw [show croJ q (at' p i) (at' p i') 0=[] from rfl,List.append_nil];exact (OW.out.alloc _).alloc _)
   have NEW:Hid (∀ n,ou.ownBlock=some n→n ≠ V.heap.size∧n ≠ V.heap.size+1):=Lib.hid (fun n e => by have:=Own.ltW OW.out n e;omega)
   go_wp2_with fail
   clear s0 s1 s2 s3 hb hb1 nai nbi nci ndi TMi WKi TNi RW OW
   go_loopw [5,9] (fun u x wz => ∃ (k:Nat) (oz:Value),k≤q.length∧x=.int .i64 k∧oz=u∧Grew w wz∧Hid (Hl.Own w.heap.size wz u (croK p q i ++ croJ q (at' p i) (at' p i') k)∧(∀ n,u.ownBlock=some n→n ≠ V.heap.size∧n ≠ V.heap.size+1)∧Blk wz V.heap.size #[.int .i64 (at' p i).1,.int .i64 (at' p i).2] 24∧Blk wz (V.heap.size+1) #[.int .i64 (at' p i').1,.int .i64 (at' p i').2] 24)) (fun _ x _ => q.length - (intOf x).toNat)
   case atStart => exact ⟨0,_,Nat.zero_le _,rfl,rfl,GA.out,Lib.hid ⟨OWA.out,NEW.out,XA.out,XB.out⟩⟩
   case round =>
    clear GA OWA NEW XA XB G
    obtain ⟨k,oz,hkq,rfl,rfl,G,HW⟩:=hrel
    by_cases hlq:k < q.length
    ·obtain ⟨k',hk'⟩:∃ m,(k+1) % q.length=m:=⟨_,rfl⟩
     have km:k' < q.length:=by rw [← hk'];exact Nat.mod_lt _ (by omega)
     have TMk:((k:Int)+1).tmod (q.length:Int)=(k':Int):=by
      rw [← hk',Int.natCast_emod,Int.natCast_add]
      exact Int.tmod_eq_emod_of_nonneg (by omega)
     have WKk:IntKind.i64.wrap ((k:Int)+1)=(k:Int)+1:=IntWalk.i64_in _ ⟨by omega,by omega⟩
     have TNk:((k:Int)+1) % (q.length:Int)=(k':Int):=by rw [← TMk];exact (Int.tmod_eq_emod_of_nonneg (by omega)).symm
     have nak:(q.length:Int) ≠ 0:=by omega
     have nbk:((q.length:Int) == 0)=false:=by rw [beq_eq_false_iff_ne];omega
     have nck:¬ q.length=0:=by omega
     have ndk:(0:Int)≤(k:Int)+1:=by omega
     have SV:=Lib.hid (by have g:=croJ_succ q (at' p i) (at' p i') k;unfold croF at g;rw [hk'] at g;exact g)
     clear hk'
     have RW:=Lib.hid (HR'.out.grown G)
     obtain ⟨s0,s1⟩:=RW.out.2 k hlq
     obtain ⟨s2,s3⟩:=RW.out.2 k' km
     have hb:=RW.out.1
     have hb1:b' < wr.heap.size+1:=by omega
     have k0:(0:Int)≤(k:Int):=by omega
     have k1:(k:Int) < (q.length:Int):=by omega
     have k2:(k':Int) < (q.length:Int):=by omega
     have PC:=Lib.hid (PL'.out k hlq)
     have PD:=Lib.hid (PL'.out k' km)
     have BS:=cr_big PA.out PB.out PC.out
     have BT:=cr_big PA.out PB.out PD.out
     have LJk:=Lib.hid (LJ.out (at' p i) (at' p i') k)
     have HLQ:=Lib.hid hlq
     obtain ⟨a0,a1⟩:=rblk2 HW.out.2.2.1
     obtain ⟨b0,b1⟩:=rblk2 HW.out.2.2.2
     have la:=HW.out.2.2.1.lt
     have lb:=HW.out.2.2.2.lt
     have la1:V.heap.size < wr.heap.size+1:=by omega
     have la2:V.heap.size < wr.heap.size+1+1:=by omega
     have lb1:V.heap.size+1 < wr.heap.size+1:=by omega
     have lb2:V.heap.size+1 < wr.heap.size+1+1:=by omega
     have CS0:Hid (∀ W,Calls Tryz.prog 89 #[.agg #[.int .i64 (at' p i).1,.int .i64 (at' p i).2],.agg #[.int .i64 (at' p i').1,.int .i64 (at' p i').2],.agg #[.int .i64 (at' q k).1,.int .i64 (at' q k).2]] W fun e w' => e=.returned (.int .i64 (cr (at' p i) (at' p i') (at' q k)))∧Grew W w'):=Lib.hid (fun W => (CC.out (at' p i) (at' p i') (at' q k) W PA.out PB.out PC.out).mono (by
      rintro e w' ⟨rfl,rfl⟩
      exact ⟨rfl,(((Grew.refl _).alloc _ _).alloc _ _).alloc _ _⟩))
     have CT0:Hid (∀ W,Calls Tryz.prog 89 #[.agg #[.int .i64 (at' p i).1,.int .i64 (at' p i).2],.agg #[.int .i64 (at' p i').1,.int .i64 (at' p i').2],.agg #[.int .i64 (at' q k').1,.int .i64 (at' q k').2]] W fun e w' => e=.returned (.int .i64 (cr (at' p i) (at' p i') (at' q k')))∧Grew W w'):=Lib.hid (fun W => (CC.out (at' p i) (at' p i') (at' q k') W PA.out PB.out PD.out).mono (by
      rintro e w' ⟨rfl,rfl⟩
      exact ⟨rfl,(((Grew.refl _).alloc _ _).alloc _ _).alloc _ _⟩))
     have CZ:Hid (∀ x W,Plc x→Calls Tryz.prog 89 #[.agg #[.int .i64 (at' q k).1,.int .i64 (at' q k).2],.agg #[.int .i64 (at' q k').1,.int .i64 (at' q k').2],.agg #[.int .i64 x.1,.int .i64 x.2]] W fun e w' => e=.returned (.int .i64 (cr (at' q k) (at' q k') x))∧((W.alloc (.cells #[.int .i64 (at' q k).1,.int .i64 (at' q k).2] 24)).alloc (.cells #[.int .i64 (at' q k').1,.int .i64 (at' q k').2] 24)).alloc (.cells #[.int .i64 x.1,.int .i64 x.2] 24)=w'):=Lib.hid (fun x W hx => CC.out (at' q k) (at' q k') x W PC.out PD.out hx)
     have BU:=cr_big PC.out PD.out PA.out
     have BV:=cr_big PC.out PD.out PB.out
     obtain ⟨s,hs⟩:∃ s,cr (at' p i) (at' p i') (at' q k)=s:=⟨_,rfl⟩
     obtain ⟨t,ht⟩:∃ t,cr (at' p i) (at' p i') (at' q k')=t:=⟨_,rfl⟩
     rw [hs] at CS0 BS SV
     rw [ht] at CT0 BT SV
     clear hs ht
     have CS:=Lib.hid CS0.out
     have CT:=Lib.hid CT0.out
     clear CS0 CT0
     go_wp2_with fail
     have XC:=Lib.hid ((Blk.new wr #[.int .i64 (at' q k).1,.int .i64 (at' q k).2] 24).alloc (.cells #[.int .i64 (at' q k').1,.int .i64 (at' q k').2] 24))
     have XD:=Lib.hid (show Blk ((wr.alloc (.cells #[.int .i64 (at' q k).1,.int .i64 (at' q k).2] 24)).alloc (.cells #[.int .i64 (at' q k').1,.int .i64 (at' q k').2] 24)) (wr.heap.size+1) #[.int .i64 (at' q k').1,.int .i64 (at' q k').2] 24 from by have g:=Blk.new (wr.alloc (.cells #[.int .i64 (at' q k).1,.int .i64 (at' q k).2] 24)) #[.int .i64 (at' q k').1,.int .i64 (at' q k').2] 24;rw [World.size_alloc] at g;exact g)
     refine (CS.out _).mono ?_
     rintro e v1 ⟨rfl,g1⟩
     have D1:=Lib.hid (Grew.trans (((Grew.refl wr).alloc _ _).alloc _ _) g1)
     have XA:=Lib.hid (HW.out.2.2.1.grown D1.out)
     have XB:=Lib.hid (HW.out.2.2.2.grown D1.out)
     have XC:=Lib.hid (XC.out.grown g1)
     have XD:=Lib.hid (XD.out.grown g1)
     clear g1 s0 s1 s2 s3 hb hb1 a0 a1 b0 b1 la lb la1 la2 lb1 lb2 nak nbk nck ndk TMk WKk TNk RW
     obtain ⟨a0,a1⟩:=rblk2 XA.out
     obtain ⟨b0,b1⟩:=rblk2 XB.out
     obtain ⟨c0,c1⟩:=rblk2 XC.out
     obtain ⟨d0,d1⟩:=rblk2 XD.out
     have la:=XA.out.lt
     have lb:=XB.out.lt
     have lc:=XC.out.lt
     have ld:=XD.out.lt
     go_wp2_with fail
     refine (CT.out _).mono ?_
     rintro e v2 ⟨rfl,g2⟩
     have D2:=Lib.hid (Grew.trans D1.out g2)
     have G2:Grew w v2:=Grew.trans G D2.out
     have OW2:=Lib.hid (HW.out.1.grew D2.out)
     have XA:=Lib.hid (XA.out.grown g2)
     have XB:=Lib.hid (XB.out.grown g2)
     have XC:=Lib.hid (XC.out.grown g2)
     have XD:=Lib.hid (XD.out.grown g2)
     have NEW:=Lib.hid HW.out.2.1
     clear g2 D1 G HW CS CT a0 a1 b0 b1 c0 c1 d0 d1 la lb lc ld
     obtain ⟨a0,a1⟩:=rblk2 XA.out
     obtain ⟨b0,b1⟩:=rblk2 XB.out
     obtain ⟨c0,c1⟩:=rblk2 XC.out
     obtain ⟨d0,d1⟩:=rblk2 XD.out
     have la:=XA.out.lt
     have lb:=XB.out.lt
     have lc:=XC.out.lt
     have ld:=XD.out.lt
     have la1:V.heap.size < v2.heap.size+1:=by omega
     have la2:V.heap.size < v2.heap.size+1+1:=by omega
     have la3:V.heap.size < v2.heap.size+1+1+1:=by omega
     have la4:V.heap.size < v2.heap.size+1+1+1+1:=by omega
     have la5:V.heap.size < v2.heap.size+1+1+1+1+1:=by omega
     have la6:V.heap.size < v2.heap.size+1+1+1+1+1+1:=by omega
     have lb1:V.heap.size+1 < v2.heap.size+1:=by omega
     have lb2:V.heap.size+1 < v2.heap.size+1+1:=by omega
     have lb3:V.heap.size+1 < v2.heap.size+1+1+1:=by omega
     have lb4:V.heap.size+1 < v2.heap.size+1+1+1+1:=by omega
     have lb5:V.heap.size+1 < v2.heap.size+1+1+1+1+1:=by omega
     have lb6:V.heap.size+1 < v2.heap.size+1+1+1+1+1+1:=by omega
     have lc1:wr.heap.size < v2.heap.size+1:=by omega
     have lc2:wr.heap.size < v2.heap.size+1+1:=by omega
     have lc3:wr.heap.size < v2.heap.size+1+1+1:=by omega
     have lc4:wr.heap.size < v2.heap.size+1+1+1+1:=by omega
     have lc5:wr.heap.size < v2.heap.size+1+1+1+1+1:=by omega
     have lc6:wr.heap.size < v2.heap.size+1+1+1+1+1+1:=by omega
     have ld1:wr.heap.size+1 < v2.heap.size+1:=by omega
     have ld2:wr.heap.size+1 < v2.heap.size+1+1:=by omega
     have ld3:wr.heap.size+1 < v2.heap.size+1+1+1:=by omega
     have ld4:wr.heap.size+1 < v2.heap.size+1+1+1+1:=by omega
     have ld5:wr.heap.size+1 < v2.heap.size+1+1+1+1+1:=by omega
     have ld6:wr.heap.size+1 < v2.heap.size+1+1+1+1+1+1:=by omega
     clear BU BV
     go_wp2_with fail
     refine (DC.out s t _).mono ?_
     rintro e w'' ⟨rfl,rfl⟩
     by_cases c2:Df (cr (at' q k) (at' q k') (at' p i)) (cr (at' q k) (at' q k') (at' p i'))
     ·rw [if_pos c2] at SV
      by_cases c1':Df s t
      ·rw [decide_eq_true c1']
       have C1:=Lib.hid c1'
       have C2:=Lib.hid (decide_eq_true c2)
       clear c2 c1'
       go_wp2_with fail
       go_region_held3 (fun w' => (w'.cell? ⟨V.heap.size,0,none⟩=some (.int .i64 (at' p i).1)∧w'.cell? ⟨V.heap.size,1,none⟩=some (.int .i64 (at' p i).2))∧(w'.cell? ⟨V.heap.size+1,0,none⟩=some (.int .i64 (at' p i').1)∧w'.cell? ⟨V.heap.size+1,1,none⟩=some (.int .i64 (at' p i').2))∧(w'.cell? ⟨wr.heap.size,0,none⟩=some (.int .i64 (at' q k).1)∧w'.cell? ⟨wr.heap.size,1,none⟩=some (.int .i64 (at' q k).2))∧(w'.cell? ⟨wr.heap.size+1,0,none⟩=some (.int .i64 (at' q k').1)∧w'.cell? ⟨wr.heap.size+1,1,none⟩=some (.int .i64 (at' q k').2))) (first | (simp only [World.cell?_drew];simp [go_sem, *]) | simp [go_sem, *])
        (first | (go_at_call 89;refine (CZ.out _ _ (by first | exact PA.out | exact PB.out)).mono ?_;rintro e w' ⟨rfl,rfl⟩) | (go_at_call 192;refine (DC.out _ _ _).mono ?_;rintro e w' ⟨rfl,rfl⟩))
       rw [C2.out]
       go_wp2_with (first | (go_at_call 193;refine (frame_r (at' q k) (at' q k') s t _ PC.out PD.out C1.out BS BT).mono ?_;rintro e v5 ⟨fv,rfl,fo,g5⟩;have OF:=Lib.hid fo;have D5:=Lib.hid (Grew.trans (a:=v2) gw g5);have G5:=Lib.hid (Grew.trans G2 D5.out);have OW5:=Lib.hid (OW2.out.grew D5.out);have XA5:=Lib.hid (XA.out.grown D5.out);have XB5:=Lib.hid (XB.out.grown D5.out);clear fo g5) | (at_builtin;go_must (refine wpl_app _ rfl _ _ rfl w.heap.size _ _ _ (croK p q i ++ croJ q (at' p i) (at' p i') k) (crL (at' q k) (at' q k') s t) rfl OW5.out rfl OF.out (by have:=LKi.out;have:=LJk.out;have:=L64.out;have:=HLI.out;have:=HLQ.out;have:=crL_four (at' q k) (at' q k') s t;rw [List.length_append];omega) (by have:=G5.out.size;omega) ?_;intro v6 w6 own6 gr6;have G6:=Lib.hid (Grew.grown G5.out gr6 (fun k hk => OW5.out.block k hk));have XA6:=Lib.hid (Blk.row XA5.out gr6 (fun e => (NEW.out _ e).1 rfl));have XB6:=Lib.hid (Blk.row XB5.out gr6 (fun e => (NEW.out _ e).2 rfl));have OW6:=Lib.hid own6;clear own6 gr6)))
       have LL:Hid (2≤((croK p q i ++ croJ q (at' p i) (at' p i') k) ++ crL (at' q k) (at' q k') s t).length):=Lib.hid (by rw [List.length_append,crL_is C1.out];omega)
       go_roundw
       case rel => exact ⟨k+1,_,by omega,by go_num,rfl,G6.out,Lib.hid ⟨by rw [SV.out,← List.append_assoc];exact OW6.out,fun n e => ⟨fun h => own_ne OW6.out LL.out XA6.out (h ▸ e),fun h => own_ne OW6.out LL.out XB6.out (h ▸ e)⟩,XA6.out,XB6.out⟩⟩
       case measure => simp [intOf];omega
      ·rw [decide_eq_false c1']
       rw [crL_none c1',List.append_nil] at SV
       have C2:=Lib.hid (decide_eq_true c2)
       clear c2 c1'
       go_wp2_with fail
       go_region_held3 (fun w' => (w'.cell? ⟨V.heap.size,0,none⟩=some (.int .i64 (at' p i).1)∧w'.cell? ⟨V.heap.size,1,none⟩=some (.int .i64 (at' p i).2))∧(w'.cell? ⟨V.heap.size+1,0,none⟩=some (.int .i64 (at' p i').1)∧w'.cell? ⟨V.heap.size+1,1,none⟩=some (.int .i64 (at' p i').2))∧(w'.cell? ⟨wr.heap.size,0,none⟩=some (.int .i64 (at' q k).1)∧w'.cell? ⟨wr.heap.size,1,none⟩=some (.int .i64 (at' q k).2))∧(w'.cell? ⟨wr.heap.size+1,0,none⟩=some (.int .i64 (at' q k').1)∧w'.cell? ⟨wr.heap.size+1,1,none⟩=some (.int .i64 (at' q k').2))) (first | (simp only [World.cell?_drew];simp [go_sem, *]) | simp [go_sem, *])
        (first | (go_at_call 89;refine (CZ.out _ _ (by first | exact PA.out | exact PB.out)).mono ?_;rintro e w' ⟨rfl,rfl⟩) | (go_at_call 192;refine (DC.out _ _ _).mono ?_;rintro e w' ⟨rfl,rfl⟩))
       rw [C2.out]
       go_wp2_with fail
       go_roundw
       case rel => exact ⟨k+1,_,by omega,by go_num,rfl,gw,Lib.hid ⟨by rw [SV.out];exact OW2.out.grew gw,NEW.out,XA.out.grown gw,XB.out.grown gw⟩⟩
       case measure => simp [intOf];omega
     ·rw [if_neg c2,List.append_nil] at SV
      have C2:=Lib.hid (decide_eq_false c2)
      clear c2
      obtain ⟨one,hone⟩:∃ r,decide (Df s t)=r:=⟨_,rfl⟩
      rw [hone]
      clear hone
      go_wp2_with fail
      go_region_held3 (fun w' => (w'.cell? ⟨V.heap.size,0,none⟩=some (.int .i64 (at' p i).1)∧w'.cell? ⟨V.heap.size,1,none⟩=some (.int .i64 (at' p i).2))∧(w'.cell? ⟨V.heap.size+1,0,none⟩=some (.int .i64 (at' p i').1)∧w'.cell? ⟨V.heap.size+1,1,none⟩=some (.int .i64 (at' p i').2))∧(w'.cell? ⟨wr.heap.size,0,none⟩=some (.int .i64 (at' q k).1)∧w'.cell? ⟨wr.heap.size,1,none⟩=some (.int .i64 (at' q k).2))∧(w'.cell? ⟨wr.heap.size+1,0,none⟩=some (.int .i64 (at' q k').1)∧w'.cell? ⟨wr.heap.size+1,1,none⟩=some (.int .i64 (at' q k').2))) (first | (simp only [World.cell?_drew];simp [go_sem, *]) | simp [go_sem, *])
       (first | (go_at_call 89;refine (CZ.out _ _ (by first | exact PA.out | exact PB.out)).mono ?_;rintro e w' ⟨rfl,rfl⟩) | (go_at_call 192;refine (DC.out _ _ _).mono ?_;rintro e w' ⟨rfl,rfl⟩))
      rw [C2.out]
      cases one
      ·go_wp2_with fail
       go_roundw
       case rel => exact ⟨k+1,_,by omega,by go_num,rfl,gw,Lib.hid ⟨by rw [SV.out];exact OW2.out.grew gw,NEW.out,XA.out.grown gw,XB.out.grown gw⟩⟩
       case measure => simp [intOf];omega
      ·go_wp2_with fail
       go_roundw
       case rel => exact ⟨k+1,_,by omega,by go_num,rfl,gw,Lib.hid ⟨by rw [SV.out];exact OW2.out.grew gw,NEW.out,XA.out.grown gw,XB.out.grown gw⟩⟩
       case measure => simp [intOf];omega
    ·obtain rfl:k=q.length:=by omega
     have SW:=Lib.hid (show croK p q (i+1)=croK p q i ++ croJ q (at' p i) (at' p i') q.length from SU.out)
     go_wp2_with fail
     go_roundw
     case rel => exact ⟨i+1,_,by omega,by go_num,rfl,G,Lib.hid (by rw [SW.out];exact HW.out.1)⟩
     case measure => simp [intOf];omega
  ·obtain rfl:i=p.length:=by omega
   go_wp2_with fail
   go_ret
   exact ⟨_,rfl,OW.out,G⟩
end Ct
end Go.Proofs.YtbpgfenippiepaaGreatDoor
