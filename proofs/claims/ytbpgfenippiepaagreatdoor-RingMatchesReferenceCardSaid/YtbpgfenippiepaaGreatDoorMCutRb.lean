/-
  The reference functions Corners and Left of layer 4.
  The reference function Left of layer 4.
-/
import Derived.Test.YtbpgfenippiepaaGreatDoorMCutRa
import Derived.Test.YtbpgfenippiepaaGreatDoorMCutCi
namespace Go.Proofs.YtbpgfenippiepaaGreatDoor
open Go.RowKit Hl Ex
namespace Ct
set_option maxRecDepth 100000
theorem wpl_app {ops:Array Oper} {rest:List Oper} {o:Oper} {a:Act} {Q:Exit→Act→World→Prop} (w:World) (hgd:o.guard=none) (s x:Operand)
  (ho:o.op=.call { callee:=.builtin .append,args:=#[s,x],argTypes:=#[48,48] }) (B B':Nat) (v u:Value) (p q:List Pt)
  (hs:a.eval s=v) (hown:Hl.Own B w v p) (hx:a.eval x=u) (hu:Hl.Own B' w u q) (hl:p.length+q.length≤4000000) (hB:B≤w.heap.size)
  (h:∀ v' w',Hl.Own B w' v' (p ++ q)→w.grownBy w' v.ownBlock→wpList Tryz.prog ops Q rest (a.put o.dst v') w'):wpList Tryz.prog ops Q (o :: rest) a w :=
 wpList_plain hgd fun _ hK => wp_append_oo w s x 48 Tryz.underlying48 ho B B' v u p q hs hown hx hu hl hB fun v' w' h2 h3 => hK _ _ (h v' w' h2 h3)
theorem Own.ltW {B:Nat} {w:World} {v:Value} {p:List Pt} (h:Hl.Own B w v p):∀ k,v.ownBlock=some k→k < w.heap.size:=fun k e => (World.ownsRow.lt h k e).2
theorem flat_snoc {α:Type} (F:Nat→List α) (k:Nat):(List.range (k+1)).flatMap F=(List.range k).flatMap F ++ F k:=by rw [List.range_succ,List.flatMap_append,List.flatMap_singleton]
theorem flat_le {α:Type} (F:Nat→List α) (c:Nat) (hF:∀ i,(F i).length≤c):∀ k,((List.range k).flatMap F).length≤c * k
 | 0 => Nat.zero_le _
 | k+1 => by
   have:=flat_le F c hF k
   have:=hF k
   rw [flat_snoc,List.length_append,Nat.mul_succ]
   omega
def corF (p q:List Pt) (i:Nat):List Pt:=if hsB q (at' p i)=true then [at' p i] else []
def corL (p q:List Pt):List Pt:=(List.range p.length).flatMap (corF p q)
def corK (p q:List Pt) (k:Nat):List Pt:=(List.range k).flatMap (corF p q)
theorem corF_len (p q:List Pt) (i:Nat):(corF p q i).length≤1:=by unfold corF;split <;> simp
theorem corK_len (p q:List Pt) (k:Nat):(corK p q k).length≤k:=by have:=flat_le (corF p q) 1 (corF_len p q) k;unfold corK;omega
theorem corK_yes {p q:List Pt} {k:Nat} (h:hsB q (at' p k)=true):corK p q (k+1)=corK p q k ++ [at' p k]:=by unfold corK;rw [flat_snoc];unfold corF;rw [if_pos h]
theorem corK_no {p q:List Pt} {k:Nat} (h:hsB q (at' p k)=false):corK p q (k+1)=corK p q k:=by unfold corK;rw [flat_snoc];unfold corF;rw [if_neg (by rw [h];decide),List.append_nil]
theorem corK_all (p q:List Pt):corK p q p.length=corL p q:=rfl
def CorSays (p q:List Pt) (w:World) (e:Ending) (w':World):Prop:=∃ v,e=.returned v∧Hl.Own w.heap.size w' v (corL p q)∧Grew w w'
theorem hsB_iff {p:List Pt} {x:Pt}:hsB p x=true↔Hs p x:=by unfold hsB;exact decide_eq_true_iff
theorem slr {W:World} {a:Option Addr} {n c:Nat} {l:List Pt} (h:Sl W (.slice a n c) l) (h0:0 < l.length):∃ b o,a=some ⟨b,o,none⟩∧Row W b o l:=by
 obtain ⟨b,o,c',e,r⟩:=h.row (fun e => by rw [e] at h0;cases h0)
 injection e with e1 e2 e3
 exact ⟨b,o,e1,r⟩
set_option maxHeartbeats 4000000 in
theorem corners_r (p q:List Pt) (v:Value) (b' o' c':Nat) (w:World) (hs:Sl w v p) (hr':Row w b' o' q) (hp:Plcs p) (hq:Vl q) (hl:p.length≤20000):Calls Tryz.prog 149 #[v,.slice (some ⟨b',o',none⟩) q.length c'] w (CorSays p q w):=by
 obtain ⟨sa,sc,rfl⟩:=hs.shape
 have HS:=Lib.hid hs
 have IC:Hid (∀ k W,k < p.length→Grew w W→Calls Tryz.prog 54 #[.slice (some ⟨b',o',none⟩) q.length c',.agg #[.int .i64 (at' p k).1,.int .i64 (at' p k).2]] W fun e w' => e=.returned (.bool (hsB q (at' p k)))∧Grew W w'):=Lib.hid (fun k W hk g => (inside_any q (at' p k) b' o' c' W (hr'.grown g) hq.2.1 (hp k hk) hq.1.1 (by have:=hq.1.2;omega)).mono (by
  rintro e w' ⟨r,rfl,h,g⟩
  refine ⟨?_,g⟩
  have:r=hsB q (at' p k):=by rw [Bool.eq_iff_iff,h,hsB_iff]
  rw [this]))
 have LN:=Lib.hid (corK_len p q)
 have HL:=Lib.hid hl
 clear hs hr' hp hq
 go_enter Tryz.func149,Tryz.ntmps149
 go_wp2_with fail
 go_loopw [5,6] (fun u i wr => ∃ k:Nat,k≤p.length∧i=.int .i64 k∧Grew w wr∧Hid (Hl.Own w.heap.size wr u (corK p q k))) (fun _ i _ => p.length - (intOf i).toNat)
 case atStart => exact ⟨0,Nat.zero_le _,rfl,Grew.refl _,Lib.hid (Own.nil _ _)⟩
 case round =>
  obtain ⟨k,hk,rfl,G,OW⟩:=hrel
  have lk:=LN.out k
  by_cases hlt:k < p.length
  ·obtain ⟨sb,so,rfl,row⟩:=slr (HS.out.grown G) (by omega)
   obtain ⟨q0,q1⟩:=row.2 k hlt
   have hb:=row.1
   have i0:(0:Int)≤(k:Int):=by omega
   have i1:(k:Int) < (p.length:Int):=by omega
   have ICk:=Lib.hid (fun W g => IC.out k W hlt g)
   have PK:Hid ((hsB q (at' p k)=true→corK p q (k+1)=corK p q k ++ [at' p k])∧(hsB q (at' p k)=false→corK p q (k+1)=corK p q k)):=Lib.hid ⟨corK_yes,corK_no⟩
   have KN:=Lib.hid lk
   obtain ⟨r,hr⟩:∃ r,hsB q (at' p k)=r:=⟨_,rfl⟩
   rw [hr] at ICk PK
   have ROW:=Lib.hid row
   clear hr row lk
   cases r
   ·have P1:=Lib.hid (PK.out.2 rfl)
    clear PK
    go_wp2_with fail
    refine (ICk.out _ G).mono ?_
    rintro e w3 ⟨rfl,g3⟩
    have G3:Grew w w3:=Grew.trans G g3
    have OW3:=Lib.hid (OW.out.grew g3)
    clear g3 q0 q1 hb
    go_wp2_with fail
    go_roundw
    case rel => exact ⟨k+1,by omega,by go_num,G3,Lib.hid (by rw [P1.out];exact OW3.out)⟩
    case measure => simp [intOf];omega
   ·have P1:=Lib.hid (PK.out.1 rfl)
    clear PK
    go_wp2_with fail
    refine (ICk.out _ G).mono ?_
    rintro e w3 ⟨rfl,g3⟩
    have G3:Grew w w3:=Grew.trans G g3
    have OW3:=Lib.hid (OW.out.grew g3)
    obtain ⟨q0,q1⟩:=(ROW.out.grown g3).2 k hlt
    have hb:=(ROW.out.grown g3).1
    clear g3
    go_wp2_with (at_builtin;go_must (refine wpl_app _ rfl _ _ rfl w.heap.size w3.heap.size _ _ (corK p q k) [at' p k] rfl (OW3.out.alloc _) rfl (own_one w3 (at' p k) (Nat.le_refl _)) (by have:=KN.out;have:=HL.out;simp;omega) (by have:=G3.size;simp;omega) ?_;intro v' w' own' gr';have GG:=Lib.hid (Grew.grown (G3.alloc _ _) gr' (fun k hk => OW3.out.block k hk));have OW4:=Lib.hid own';clear own' gr'))
    go_roundw
    case rel => exact ⟨k+1,by omega,by go_num,GG.out,Lib.hid (by rw [P1.out];exact OW4.out)⟩
    case measure => simp [intOf];omega
  ·obtain rfl:k=p.length:=by omega
   go_wp2_with fail
   go_ret
   exact ⟨_,rfl,OW.out,G⟩
end Ct
end Go.Proofs.YtbpgfenippiepaaGreatDoor
namespace Go.Proofs.YtbpgfenippiepaaGreatDoor
open Go.RowKit Hl Ex
namespace Ct
set_option maxRecDepth 100000
def lefF (p:List Pt) (h:Hf) (i:Nat):List Pt:=(if ov h (at' p i)≤0 then [at' p i] else []) ++ crL (at' p i) (at' p ((i+1) % p.length)) (ov h (at' p i)) (ov h (at' p ((i+1) % p.length)))
def lefK (p:List Pt) (h:Hf) (k:Nat):List Pt:=(List.range k).flatMap (lefF p h)
theorem lefK_all (p:List Pt) (h:Hf):lefK p h p.length=leftL p h:=rfl
theorem crL_four (a b:Pt) (s t:Int):(crL a b s t).length≤4:=by have:=crL_len a b s t;split at this <;> omega
theorem crL_none {a b:Pt} {s t:Int} (h:¬ Df s t):crL a b s t=[]:=by
 have:=crL_len a b s t
 rw [if_neg (by rw [decide_eq_true_iff];exact h)] at this
 exact List.length_eq_zero_iff.1 (by omega)
theorem lefF_len (p:List Pt) (h:Hf) (i:Nat):(lefF p h i).length≤5:=by
 unfold lefF
 rw [List.length_append]
 have:=crL_four (at' p i) (at' p ((i+1) % p.length)) (ov h (at' p i)) (ov h (at' p ((i+1) % p.length)))
 split <;> simp <;> omega
theorem lefK_len (p:List Pt) (h:Hf) (k:Nat):(lefK p h k).length≤5 * k:=flat_le (lefF p h) 5 (lefF_len p h) k
theorem lefK_succ (p:List Pt) (h:Hf) (k:Nat):lefK p h (k+1)=(lefK p h k ++ if ov h (at' p k)≤0 then [at' p k] else []) ++ crL (at' p k) (at' p ((k+1) % p.length)) (ov h (at' p k)) (ov h (at' p ((k+1) % p.length))):=by
 unfold lefK
 rw [flat_snoc,List.append_assoc]
 rfl
def LefSays (p:List Pt) (h:Hf) (w:World) (e:Ending) (w':World):Prop:=∃ v,e=.returned v∧Hl.Own w.heap.size w' v (leftL p h)∧Grew w w'
set_option maxHeartbeats 8000000 in
theorem left_r (p:List Pt) (h:Hf) (b o c:Nat) (w:World) (hr:Row w b o p) (hp:Vl p) (hh:WF h):Calls Tryz.prog 166 #[.slice (some ⟨b,o,none⟩) p.length c,.agg #[.int .i64 h.1,.int .i64 h.2.1,.int .i64 h.2.2]] w (LefSays p h w):=by
 have HR:=Lib.hid hr
 have OC:Hid (∀ k W,k < p.length→Calls Tryz.prog 197 #[.agg #[.int .i64 h.1,.int .i64 h.2.1,.int .i64 h.2.2],.agg #[.int .i64 (at' p k).1,.int .i64 (at' p k).2]] W fun e w' => e=.returned (.int .i64 (ov h (at' p k)))∧Grew W w'):=Lib.hid (fun k W hk => (over_r h _ W hh (hp.2.1 k hk)).mono (by
  rintro e w' ⟨rfl,rfl⟩
  exact ⟨rfl,((Grew.refl _).alloc _ _).alloc _ _⟩))
 have BD:Hid (∀ k,k < p.length→-2000000000000≤ov h (at' p k)∧ov h (at' p k)≤2000000000000):=Lib.hid (fun k hk => (ov_bd hh.eb (hp.2.1 k hk)).2.2)
 have PL:=Lib.hid hp.2.1
 have LN:=Lib.hid (lefK_len p h)
 have L64:Hid (p.length≤64):=Lib.hid hp.1.2
 have h64:(p.length:Int)≤64:=by have:=hp.1.2;omega
 have HH:=Lib.hid (Blk.new w #[.int .i64 h.1,.int .i64 h.2.1,.int .i64 h.2.2] 78)
 have SZ:Hid ((w.alloc (.cells #[.int .i64 h.1,.int .i64 h.2.1,.int .i64 h.2.2] 78)).heap.size=w.heap.size+1):=Lib.hid (World.size_alloc _ _)
 clear hr hp hh
 go_enter Tryz.func166,Tryz.ntmps166
 go_wp2_with fail
 go_loopw [5,6] (fun u i wr => ∃ (k:Nat) (ou:Value),k≤p.length∧i=.int .i64 k∧ou=u∧Grew (w.alloc (.cells #[.int .i64 h.1,.int .i64 h.2.1,.int .i64 h.2.2] 78)) wr∧Hid (Hl.Own (w.heap.size+1) wr u (lefK p h k))) (fun _ i _ => p.length - (intOf i).toNat)
 case atStart => exact ⟨0,_,Nat.zero_le _,rfl,rfl,Grew.refl _,Lib.hid (Own.nil _ _)⟩
 case round =>
  obtain ⟨k,ou,hk,rfl,rfl,G,OW⟩:=hrel
  by_cases hlt:k < p.length
  ·obtain ⟨m,hm⟩:∃ m,(k+1) % p.length=m:=⟨_,rfl⟩
   have hmm:m < p.length:=by rw [← hm];exact Nat.mod_lt _ (by omega)
   have TM':((k:Int)+1).tmod (p.length:Int)=(m:Int):=by
    rw [← hm,Int.natCast_emod,Int.natCast_add]
    exact Int.tmod_eq_emod_of_nonneg (by omega)
   have WK':IntKind.i64.wrap ((k:Int)+1)=(k:Int)+1:=IntWalk.i64_in _ ⟨by omega,by omega⟩
   have TM2:((k:Int)+1) % (p.length:Int)=(m:Int):=by rw [← TM'];exact (Int.tmod_eq_emod_of_nonneg (by omega)).symm
   have nz:(p.length:Int) ≠ 0:=by omega
   have nz2:((p.length:Int) == 0)=false:=by rw [beq_eq_false_iff_ne];omega
   have nz3:¬ p.length=0:=by omega
   have k0:(0:Int)≤(k:Int)+1:=by omega
   have SU:=Lib.hid (by have g:=lefK_succ p h k;rw [hm] at g;exact g)
   clear hm
   have RW:=Lib.hid ((HR.out.grown (Grew.alloc (Grew.refl _) _ _)).grown G)
   obtain ⟨s0,s1⟩:=RW.out.2 k hlt
   obtain ⟨s2,s3⟩:=RW.out.2 m hmm
   have hb:=RW.out.1
   have hb1:b < wr.heap.size+1:=by omega
   have hb2:b < wr.heap.size+1+1:=by omega
   have i0:(0:Int)≤(k:Int):=by omega
   have i1:(k:Int) < (p.length:Int):=by omega
   have i2:(m:Int) < (p.length:Int):=by omega
   have OCk:=Lib.hid (fun W => OC.out k W hlt)
   have OCm:=Lib.hid (fun W => OC.out m W hmm)
   have BK:=BD.out k hlt
   have BM:=BD.out m hmm
   have PK:=Lib.hid (PL.out k hlt)
   have PM:=Lib.hid (PL.out m hmm)
   have LK:=Lib.hid (LN.out k)
   have HL:=Lib.hid hlt
   obtain ⟨h0,h1,h2⟩:=rblk3 (HH.out.grown G)
   have lh:=(HH.out.grown G).lt
   have lh1:w.heap.size < wr.heap.size+1:=by omega
   have lh2:w.heap.size < wr.heap.size+1+1:=by omega
   obtain ⟨s,hs⟩:∃ s,ov h (at' p k)=s:=⟨_,rfl⟩
   obtain ⟨t,ht⟩:∃ t,ov h (at' p m)=t:=⟨_,rfl⟩
   rw [hs] at OCk BK SU
   rw [ht] at OCm BM SU
   clear hs ht
   go_wp2_with fail
   have XA:=Lib.hid ((Blk.new wr #[.int .i64 (at' p k).1,.int .i64 (at' p k).2] 24).alloc (.cells #[.int .i64 (at' p m).1,.int .i64 (at' p m).2] 24))
   have XB:=Lib.hid (show Blk ((wr.alloc (.cells #[.int .i64 (at' p k).1,.int .i64 (at' p k).2] 24)).alloc (.cells #[.int .i64 (at' p m).1,.int .i64 (at' p m).2] 24)) (wr.heap.size+1) #[.int .i64 (at' p m).1,.int .i64 (at' p m).2] 24 from by have g:=Blk.new (wr.alloc (.cells #[.int .i64 (at' p k).1,.int .i64 (at' p k).2] 24)) #[.int .i64 (at' p m).1,.int .i64 (at' p m).2] 24;rw [World.size_alloc] at g;exact g)
   refine (OCk.out _).mono ?_
   rintro e v1 ⟨rfl,g1⟩
   have D1:=Lib.hid (Grew.trans (((Grew.refl wr).alloc _ _).alloc _ _) g1)
   have XA:=Lib.hid (XA.out.grown g1)
   have XB:=Lib.hid (XB.out.grown g1)
   clear g1 s0 s1 s2 s3 hb hb1 hb2 h0 h1 h2 lh lh1 lh2 nz nz2 nz3 k0 TM' TM2 WK'
   obtain ⟨h0,h1,h2⟩:=rblk3 ((HH.out.grown G).grown D1.out)
   obtain ⟨b0,b1⟩:=rblk2 XB.out
   have lh:=((HH.out.grown G).grown D1.out).lt
   have lb:=XB.out.lt
   go_wp2_with fail
   refine (OCm.out _).mono ?_
   rintro e v2 ⟨rfl,g2⟩
   have D2:=Lib.hid (Grew.trans D1.out g2)
   have XA:=Lib.hid (XA.out.grown g2)
   have XB:=Lib.hid (XB.out.grown g2)
   have G2:=Lib.hid (Grew.trans G D2.out)
   have OW2:=Lib.hid (OW.out.grew D2.out)
   have NA:=Lib.hid (show ou.ownBlock ≠ some wr.heap.size from fun e => absurd (Own.ltW OW.out _ e) (Nat.lt_irrefl _))
   have NB:=Lib.hid (show ou.ownBlock ≠ some (wr.heap.size+1) from fun e => by have:=Own.ltW OW.out _ e;omega)
   clear g2 D1 D2 h0 h1 h2 lh b0 b1 lb OCk OCm RW
   obtain ⟨a0,a1⟩:=rblk2 XA.out
   have la:=XA.out.lt
   by_cases c1:s≤0
   ·rw [if_pos c1] at SU
    clear OW
    go_wp2_with (at_builtin;go_must (refine wpl_app _ rfl _ _ rfl (w.heap.size+1) v2.heap.size _ _ (lefK p h k) [(at' p k)] rfl (OW2.out.alloc _) rfl (own_one v2 (at' p k) (Nat.le_refl _)) (by have:=LK.out;have:=L64.out;have:=HL.out;simp;omega) (by have:=G2.out.size;rw [SZ.out] at this;simp;omega) ?_;intro v' w' own' gr';have G3:=Lib.hid (Grew.grown (G2.out.alloc _ _) gr' (fun k hk => by rw [SZ.out];exact OW2.out.block k hk));have OW3:=Lib.hid own';have XA3:=Lib.hid (Blk.row (XA.out.alloc _) gr' NA.out);have XB3:=Lib.hid (Blk.row (XB.out.alloc _) gr' NB.out);clear own' gr'))
    clear a0 a1 la XA XB G2 OW2 NA NB
    refine (differ_c s t _).mono ?_
    rintro e w'' ⟨rfl,rfl⟩
    obtain ⟨a0,a1⟩:=rblk2 XA3.out
    obtain ⟨b0,b1⟩:=rblk2 XB3.out
    have la:=XA3.out.lt
    have lb:=XB3.out.lt
    by_cases c2:Df s t
    ·rw [decide_eq_true c2]
     have C2:=Lib.hid c2
     clear c2
     go_wp2_with (first | (go_at_call 193;refine (frame_r (at' p k) (at' p m) s t _ PK.out PM.out C2.out BK BM).mono ?_;rintro e v5 ⟨fv,rfl,fo,g5⟩;have OF:=Lib.hid fo;have G5:=Lib.hid (Grew.trans G3.out g5);have OW5:=Lib.hid (OW3.out.grew g5);clear fo g5) | (at_builtin;go_must (refine wpl_app _ rfl _ _ rfl (w.heap.size+1) _ _ _ _ (crL (at' p k) (at' p m) s t) rfl OW5.out rfl OF.out (by have:=LK.out;have:=L64.out;have:=HL.out;have:=crL_four (at' p k) (at' p m) s t;simp;omega) (by have:=G5.out.size;rw [SZ.out] at this;omega) ?_;intro v6 w6 own6 gr6;have G6:=Lib.hid (Grew.grown G5.out gr6 (fun k hk => by rw [SZ.out];exact OW5.out.block k hk));have OW6:=Lib.hid own6;clear own6 gr6)))
     go_roundw
     case rel => exact ⟨k+1,_,by omega,by go_num,rfl,G6.out,Lib.hid (by rw [SU.out];exact OW6.out)⟩
     case measure => simp [intOf];omega
    ·rw [decide_eq_false c2]
     rw [crL_none c2,List.append_nil] at SU
     clear c2
     go_wp2_with fail
     go_roundw
     case rel => exact ⟨k+1,_,by omega,by go_num,rfl,G3.out,Lib.hid (by rw [SU.out];exact OW3.out)⟩
     case measure => simp [intOf];omega
   ·rw [if_neg c1,List.append_nil] at SU
    clear OW
    have G3:=Lib.hid G2.out
    have OW3:=Lib.hid OW2.out
    have XA3:=Lib.hid XA.out
    have XB3:=Lib.hid XB.out
    clear a0 a1 la XA XB G2 OW2 NA NB
    go_wp2_with fail
    refine (differ_c s t _).mono ?_
    rintro e w'' ⟨rfl,rfl⟩
    obtain ⟨a0,a1⟩:=rblk2 XA3.out
    obtain ⟨b0,b1⟩:=rblk2 XB3.out
    have la:=XA3.out.lt
    have lb:=XB3.out.lt
    by_cases c2:Df s t
    ·rw [decide_eq_true c2]
     have C2:=Lib.hid c2
     clear c2
     go_wp2_with (first | (go_at_call 193;refine (frame_r (at' p k) (at' p m) s t _ PK.out PM.out C2.out BK BM).mono ?_;rintro e v5 ⟨fv,rfl,fo,g5⟩;have OF:=Lib.hid fo;have G5:=Lib.hid (Grew.trans G3.out g5);have OW5:=Lib.hid (OW3.out.grew g5);clear fo g5) | (at_builtin;go_must (refine wpl_app _ rfl _ _ rfl (w.heap.size+1) _ _ _ _ (crL (at' p k) (at' p m) s t) rfl OW5.out rfl OF.out (by have:=LK.out;have:=L64.out;have:=HL.out;have:=crL_four (at' p k) (at' p m) s t;simp;omega) (by have:=G5.out.size;rw [SZ.out] at this;omega) ?_;intro v6 w6 own6 gr6;have G6:=Lib.hid (Grew.grown G5.out gr6 (fun k hk => by rw [SZ.out];exact OW5.out.block k hk));have OW6:=Lib.hid own6;clear own6 gr6)))
     go_roundw
     case rel => exact ⟨k+1,_,by omega,by go_num,rfl,G6.out,Lib.hid (by rw [SU.out];exact OW6.out)⟩
     case measure => simp [intOf];omega
    ·rw [decide_eq_false c2]
     rw [crL_none c2,List.append_nil] at SU
     clear c2
     go_wp2_with fail
     go_roundw
     case rel => exact ⟨k+1,_,by omega,by go_num,rfl,G3.out,Lib.hid (by rw [SU.out];exact OW3.out)⟩
     case measure => simp [intOf];omega
  ·obtain rfl:k=p.length:=by omega
   go_wp2_with fail
   go_ret
   exact ⟨_,rfl,by have g:=OW.out;rw [lefK_all] at g;exact own_mono g (by omega),Grew.trans ((Grew.refl _).alloc _ _) G⟩
end Ct
end Go.Proofs.YtbpgfenippiepaaGreatDoor
