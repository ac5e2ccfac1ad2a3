/-
  The landed crossings, Meet, Apart, Within, Common; all contracts of the landed package, in one.
  The landed package region: what half-planes leave, one after the other; pairs, without the program.
-/
import Derived.Test.YtbpgfenippiepaaGreatDoorCutCk
import Derived.Test.YtbpgfenippiepaaGreatDoorHullCk
import Derived.Test.YtbpgfenippiepaaGreatDoorRegL
namespace Go.Proofs.YtbpgfenippiepaaGreatDoor
open Go.RowKit Go.Shelf Hl
namespace Ct
def SideT (q:List Pt) (a b:Pt) (l:List Pt):Prop:=(∀ y,y ∈ l↔∃ k,k < q.length∧XF a b (at' q k) (at' q ((k+1) % q.length)) y)∧l.length≤8
theorem side_gath {q:List Pt} (hq:Pg q) {a b:Pt} {l:List Pt} (h:Gath (fun k l => CrossT a b (at' q k) (at' q ((k+1) % q.length)) l) (List.range q.length) l):SideT q a b l:=by
 constructor
 ·intro y
  rw [h.mem (F:=fun k y => XF a b (at' q k) (at' q ((k+1) % q.length)) y) (fun k l hl => hl.1)]
  constructor
  ·rintro ⟨k,hk,g⟩;exact ⟨k,List.mem_range.1 hk,g⟩
  ·rintro ⟨k,hk,g⟩;exact ⟨k,List.mem_range.2 hk,g⟩
 ·have h1:=h.len (P:=fun k => decide (Df (cr a b (at' q k)) (cr a b (at' q ((k+1) % q.length))))) (c:=0) (fun k l hl => by have:=hl.2;omega)
  have h2:=cross_two hq (-(b.2 - a.2)) (b.1 - a.1) ((b.2 - a.2) * a.1 - (b.1 - a.1) * a.2)
  simp only [← cr_af] at h2
  omega
set_option maxRecDepth 100000 in
set_option maxHeartbeats 4000000 in
theorem cross1_c (q:List Pt) (b' o' c' Bq:Nat) (a b:Pt) (w:World) (hr:Row w b' o' q) (hq:Vl q) (hB:Blk w Bq #[.slice (some ⟨b',o',none⟩) q.length c'] 48) (ha:Plc a) (hb:Plc b) :
  Calls Tryz.prog 154 (#[.agg #[.int .i64 a.1,.int .i64 a.2],.agg #[.int .i64 b.1,.int .i64 b.2]] ++ #[.pointer (some ⟨Bq,0,none⟩)]) w (SideSays (SideT q a b) w):=by
 have TC:Hid (∀ W,Calls Tryz.prog 155 #[.agg #[.int .i64 a.1,.int .i64 a.2],.agg #[.int .i64 b.1,.int .i64 b.2]] W fun e w' => e=.returned (.agg #[.int .i64 (thr a b).1,.int .i64 (thr a b).2.1,.int .i64 (thr a b).2.2])∧Grew W w'):=Lib.hid (fun W => through_c a b W ha hb)
 have KC:Hid (∀ Bs Ba Bb W,Grew w W→Blk W Bs #[.int .i64 (thr a b).1,.int .i64 (thr a b).2.1,.int .i64 (thr a b).2.2] 172→Blk W Ba #[.int .i64 a.1,.int .i64 a.2] 24→Blk W Bb #[.int .i64 b.1,.int .i64 b.2] 24→Calls Tryz.prog 153 #[.slice (some ⟨b',o',none⟩) q.length c',.func (.func 156) #[] #[.pointer (some ⟨Bs,0,none⟩),.pointer (some ⟨Ba,0,none⟩),.pointer (some ⟨Bb,0,none⟩)]] W (KeepSays (fun k l => CrossT a b (at' q k) (at' q ((k+1) % q.length)) l) q.length W)):=Lib.hid (fun Bs Ba Bb W g h1 h2 h3 => keep_c 156 _ (enters_of Tryz.func156 (by kernel_rfl) rfl) q b' o' c' W (hr.grown g) hq.1.1 hq.1.2 _ (fun i l hl => by have:=hl.2;split at this <;> omega) (fun i W' g' => cross11_c Bs Ba Bb a b _ _ W' (h1.grown g') (h2.grown g') (h3.grown g') ha hb (at_plc hq.2.1 i) (at_plc hq.2.1 _)))
 have FIN:Hid (∀ l,Gath (fun k l => CrossT a b (at' q k) (at' q ((k+1) % q.length)) l) (List.range q.length) l→SideT q a b l):=Lib.hid (fun l h => side_gath hq.pg h)
 have HQ:=Lib.hid hB
 have XA:=Lib.hid (Blk.new w #[.int .i64 a.1,.int .i64 a.2] 24)
 have XB:=Lib.hid (Blk.new (w.alloc (.cells #[.int .i64 a.1,.int .i64 a.2] 24)) #[.int .i64 b.1,.int .i64 b.2] 24)
 have G0:Grew w ((w.alloc (.cells #[.int .i64 a.1,.int .i64 a.2] 24)).alloc (.cells #[.int .i64 b.1,.int .i64 b.2] 24)):=((Grew.refl w).alloc _ _).alloc _ _
 obtain ⟨A,hA⟩:∃ A,thr a b=A:=⟨_,rfl⟩
 rw [hA] at TC KC
 clear hr hq hB ha hb hA
 simp only [List.append_toArray,List.cons_append,List.nil_append]
 generalize q.length=n at *
 go_enter Tryz.func154,Tryz.ntmps154
 go_wp2_with fail
 refine (TC.out _).mono ?_
 rintro e w1 ⟨rfl,g1⟩
 have G1:Grew w w1:=Grew.trans G0 g1
 have kA:=Lib.hid (((XA.out.alloc (.cells #[.int .i64 b.1,.int .i64 b.2] 24)).grown g1).alloc (.cells #[.int .i64 A.1,.int .i64 A.2.1,.int .i64 A.2.2] 172))
 have kB:=Lib.hid (by have h:=(XB.out.grown g1).alloc (.cells #[.int .i64 A.1,.int .i64 A.2.1,.int .i64 A.2.2] 172);rw [World.size_alloc] at h;exact h)
 have kQ:=HQ.out.grown G1
 have q0:=blk_single kQ
 have lQ:=kQ.lt
 have lQ1:Bq < w1.heap.size+1:=by omega
 clear g1 kQ
 go_wp2_with fail
 refine (KC.out _ _ _ _ (G1.alloc _ _) (Blk.new w1 _ _) kA.out kB.out).mono ?_
 rintro e w2 ⟨v,l,rfl,hg,ho,g2⟩
 have G2:Grew w w2:=Grew.trans (G1.alloc _ _) g2
 have F2:=Lib.hid (FIN.out l hg)
 have O2:=Lib.hid (own_mono (B':=w.heap.size) ho (by have:=G1.size;simp;omega))
 clear hg ho g2
 go_wp2_with fail
 go_ret
 exact ⟨_,l,rfl,F2.out,O2.out,G2⟩
def CrossL (p q l:List Pt):Prop:=(∀ y,y ∈ l↔∃ i k,(i < p.length∧k < q.length)∧XF (at' p i) (at' p ((i+1) % p.length)) (at' q k) (at' q ((k+1) % q.length)) y)∧l.length≤8 * p.length
theorem cross_gath {p q l:List Pt} (h:Gath (fun i l => SideT q (at' p i) (at' p ((i+1) % p.length)) l) (List.range p.length) l):CrossL p q l:=by
 constructor
 ·intro y
  rw [h.mem (F:=fun i y => ∃ k,k < q.length∧XF (at' p i) (at' p ((i+1) % p.length)) (at' q k) (at' q ((k+1) % q.length)) y) (fun k l hl => hl.1)]
  constructor
  ·rintro ⟨i,hi,k,hk,g⟩;exact ⟨i,k,⟨List.mem_range.1 hi,hk⟩,g⟩
  ·rintro ⟨i,k,⟨hi,hk⟩,g⟩;exact ⟨i,List.mem_range.2 hi,k,hk,g⟩
 ·have:=h.len (P:=fun _ => false) (c:=8) (fun i l hl => by have:=hl.2;simpa using this)
  have e0:(List.filter (fun _ => false) (List.range p.length)).length=0:=by rw [List.length_eq_zero_iff,List.filter_eq_nil_iff];simp
  rw [List.length_range] at this
  omega
def CrossSays (p q:List Pt) (w:World) (e:Ending) (w':World):Prop:=∃ v l,e=.returned v∧CrossL p q l∧Hl.Own w.heap.size w' v l∧Grew w w'
set_option maxRecDepth 100000 in
set_option maxHeartbeats 4000000 in
theorem crossings_c (p q:List Pt) (b o c b' o' c':Nat) (w:World) (hr:Row w b o p) (hr':Row w b' o' q) (hp:Vl p) (hq:Vl q):Calls Tryz.prog 121 #[.slice (some ⟨b,o,none⟩) p.length c,.slice (some ⟨b',o',none⟩) q.length c'] w (CrossSays p q w):=by
 have KC:Hid (∀ Bq W,Grew w W→Blk W Bq #[.slice (some ⟨b',o',none⟩) q.length c'] 48→Calls Tryz.prog 153 #[.slice (some ⟨b,o,none⟩) p.length c,.func (.func 154) #[] #[.pointer (some ⟨Bq,0,none⟩)]] W (KeepSays (fun i l => SideT q (at' p i) (at' p ((i+1) % p.length)) l) p.length W)):=Lib.hid (fun Bq W g h1 => keep_c 154 _ (enters_of Tryz.func154 (by kernel_rfl) rfl) p b o c W (hr.grown g) hp.1.1 hp.1.2 _ (fun i l hl => by have:=hl.2;omega) (fun i W' g' => cross1_c q b' o' c' Bq _ _ W' (hr'.grown (Grew.trans g g')) hq (h1.grown g') (at_plc hp.2.1 i) (at_plc hp.2.1 _)))
 have FIN:Hid (∀ l,Gath (fun i l => SideT q (at' p i) (at' p ((i+1) % p.length)) l) (List.range p.length) l→CrossL p q l):=Lib.hid (fun l h => cross_gath h)
 clear hr hr' hp hq
 generalize p.length=n at *
 go_enter Tryz.func121,Tryz.ntmps121
 go_wp2_with fail
 refine (KC.out _ _ ((Grew.refl _).alloc _ _) (Blk.new w _ _)).mono ?_
 rintro e w2 ⟨v,l,rfl,hg,ho,g2⟩
 have F2:=Lib.hid (FIN.out l hg)
 have O2:=Lib.hid (own_mono (B':=w.heap.size) ho (by simp))
 have G2:Grew w w2:=Grew.trans ((Grew.refl _).alloc _ _) g2
 clear hg ho g2
 go_wp2_with fail
 go_ret
 exact ⟨_,l,rfl,F2.out,O2.out,G2⟩
theorem valid_yes (K:Hl.Code) {p:List Pt} {b o c:Nat} {w:World} (hr:Row w b o p) (hp:Vl p) (W:World) (g:Grew w W):Calls Tryz.prog 56 #[.slice (some ⟨b,o,none⟩) p.length c] W fun e w' => e=.returned (.bool true)∧Grew W w' :=
 (K.valid p _ W (Or.inr ⟨b,o,c,rfl,hr.grown g⟩) (by have:=hp.1.2;omega)).mono (by
  rintro e w' ⟨r,rfl,h,g⟩
  rw [h.2 hp]
  exact ⟨rfl,g⟩)
theorem within_row (K:Hl.Code) {p q:List Pt} {b o c b' o' c':Nat} {w:World} (hr:Row w b o p) (hr':Row w b' o' q) (hp:Vl p) (hq:Vl q) (W:World) (g:Grew w W):Calls Tryz.prog 120 #[.slice (some ⟨b,o,none⟩) p.length c,.slice (some ⟨b',o',none⟩) q.length c'] W (FilterSays (p.filter (hsB q)) W) :=
 within_c K p q _ b' o' c' W (hr'.grown g) hq (by have:=hp.1.2;omega) (fun x hx => by
  obtain ⟨i,hi,e⟩:=mem_at hx
  rw [← e];exact hp.2.1 i hi) (fun W' g' => clone_c p b o c W' (hr.grown (Grew.trans g g')) (by have:=hp.1.2;omega))
theorem both_list {p q l:List Pt} (h:CrossL p q l) (y:Pt):y ∈ p.filter (hsB q) ++ q.filter (hsB p) ++ l↔BothS p q y:=by
 rw [List.mem_append,List.mem_append,mem_hsB,mem_hsB,h.1 y,mem_list,mem_list]
 unfold BothS
 constructor
 ·rintro ((⟨⟨i,hi,e⟩,g⟩ | ⟨⟨i,hi,e⟩,g⟩) | g)
  ·exact Or.inl ⟨i,hi,e,g⟩
  ·exact Or.inr (Or.inl ⟨i,hi,e,g⟩)
  ·exact Or.inr (Or.inr g)
 ·rintro (⟨i,hi,e,g⟩ | ⟨i,hi,e,g⟩ | g)
  ·exact Or.inl (Or.inl ⟨⟨i,hi,e⟩,g⟩)
  ·exact Or.inl (Or.inr ⟨⟨i,hi,e⟩,g⟩)
  ·exact Or.inr g
theorem both_plcC {p q:List Pt} (hp:Plcs p) (hq:Plcs q) {y:Pt} (h:BothS p q y):Plc y:=by
 rcases h with ⟨i,hi,rfl,_⟩ | ⟨i,hi,rfl,_⟩ | ⟨i,k,⟨hi,hk⟩,g⟩
 ·exact hp i hi
 ·exact hq i hi
 ·exact fr_plc (hq k hk) (hq _ (Nat.mod_lt _ (by omega))) g.2
set_option maxRecDepth 100000 in
set_option maxHeartbeats 4000000 in
theorem meetc_new (K:Hl.CodeN) (p q:List Pt) (v v':Value) (w:World) (hs:Sl w v p) (hs':Sl w v' q) (hp:Vl p) (hq:Vl q):Calls Tryz.prog 75 #[v,v'] w (PolyNew (BothS p q) w):=by
 obtain ⟨b,o,c,rfl,hr⟩:=hs.row (fun e => by have:=hp.1.1;rw [e] at this;cases this)
 obtain ⟨b',o',c',rfl,hr'⟩:=hs'.row (fun e => by have:=hq.1.1;rw [e] at this;cases this)
 have WP:=Lib.hid (within_row K.toCode (c:=c) (c':=c') hr hr' hp hq)
 have WQ:=Lib.hid (within_row K.toCode (c:=c') (c':=c) hr' hr hq hp)
 have XC:Hid (∀ W,Grew w W→Calls Tryz.prog 121 #[.slice (some ⟨b,o,none⟩) p.length c,.slice (some ⟨b',o',none⟩) q.length c'] W (CrossSays p q W)):=Lib.hid (fun W g => crossings_c p q b o c b' o' c' W (hr.grown g) (hr'.grown g) hp hq)
 have PC:=Lib.hid (valid_yes K.toCode (c:=c) hr hp)
 have QC:=Lib.hid (valid_yes K.toCode (c:=c') hr' hq)
 have CC:Hid (∀ B v1 v2 v3 l (W:World),CrossL p q l→Hl.Own B W v1 (p.filter (hsB q))→Hl.Own B W v2 (q.filter (hsB p))→Hl.Own B W v3 l→Calls Tryz.prog 100 #[.slice (some ⟨W.heap.size,0,none⟩) 3 3] (W.alloc (.cells #[v1,v2,v3] 48)) fun e w' => ∃ v,e=.returned v∧Hid (Sl w' v (p.filter (hsB q) ++ q.filter (hsB p) ++ l))∧Grew W w'):=Lib.hid (fun B v1 v2 v3 l W h h1 h2 h3 => by
  have a1:(p.filter (hsB q)).length≤p.length:=List.length_filter_le _ _
  have a2:(q.filter (hsB p)).length≤q.length:=List.length_filter_le _ _
  have a3:=h.2
  have a4:=hp.1.2
  have a5:=hq.1.2
  refine (concat_any W.heap.size B v1 v2 v3 _ _ l _ (Blk.new W _ _) (h1.alloc _) (h2.alloc _) (h3.alloc _) (by omega) (by omega) (by omega)).mono ?_
  rintro e w' ⟨v,rfl,ho,g⟩
  exact ⟨v,rfl,Lib.hid ho.sl,Grew.trans ((Grew.refl _).alloc _ _) g⟩)
 have OC:Hid (∀ l v W,CrossL p q l→Sl W v (p.filter (hsB q) ++ q.filter (hsB p) ++ l)→Calls Tryz.prog 119 #[v] W (PolyNew (BothS p q) W)):=Lib.hid (fun l v W h hs => by
  have a1:(p.filter (hsB q)).length≤p.length:=List.length_filter_le _ _
  have a2:(q.filter (hsB p)).length≤q.length:=List.length_filter_le _ _
  have a3:=h.2
  have a4:=hp.1.2
  have a5:=hq.1.2
  refine (outer_c K _ v W hs (by rw [List.length_append,List.length_append];omega) (fun x hx => both_plcC hp.2.1 hq.2.1 ((both_list h x).1 hx))).mono ?_
  rintro e w' (⟨r,v,hq,t⟩ | ⟨hn,t⟩)
  ·exact Or.inl ⟨r,v,hq.same (both_list h),t⟩
  ·exact Or.inr ⟨fun ⟨y,hy⟩ => hn ⟨y,(both_list h y).2 hy⟩,t⟩)
 clear hs hs' hr hr' hp hq
 generalize p.length=n at *
 generalize q.length=m at *
 go_enter Tryz.func75,Tryz.ntmps75
 go_wp2_with fail
 refine (PC.out _ (Grew.refl _)).mono ?_
 rintro e w1 ⟨rfl,g1⟩
 go_wp2_with fail
 refine (QC.out _ g1).mono ?_
 rintro e w2 ⟨rfl,g2⟩
 have G2:Grew w w2:=Grew.trans g1 g2
 clear g1 g2
 go_wp2_with fail
 refine (WP.out _ G2).mono ?_
 rintro e w3 ⟨v1,rfl,o1,g3⟩
 have G3:Grew w w3:=Grew.trans G2 g3
 have O1:=Lib.hid (own_mono (B':=w.heap.size) o1 G2.size)
 clear o1 g3
 go_wp2_with fail
 refine (WQ.out _ G3).mono ?_
 rintro e w4 ⟨v2,rfl,o2,g4⟩
 have G4:Grew w w4:=Grew.trans G3 g4
 have O1:=Lib.hid (O1.out.grew g4)
 have O2:=Lib.hid (own_mono (B':=w.heap.size) o2 G3.size)
 clear o2 g4
 go_wp2_with fail
 refine (XC.out _ G4).mono ?_
 rintro e w5 ⟨v3,l,rfl,hx,o3,g5⟩
 have G5:Grew w w5:=Grew.trans G4 g5
 have HX:=Lib.hid hx
 have C5:=Lib.hid (CC.out w.heap.size v1 v2 v3 l w5 hx (O1.out.grew g5) (O2.out.grew g5) (own_mono o3 G4.size))
 have sh1:=(O1.out.grew g5).sl.shape
 have sh2:=(O2.out.grew g5).sl.shape
 have sh3:=o3.sl.shape
 obtain ⟨a1,c1,rfl⟩:=sh1
 obtain ⟨a2,c2,rfl⟩:=sh2
 obtain ⟨a3,c3,rfl⟩:=sh3
 clear o3 g5 hx O1 O2
 go_wp2_with fail
 refine C5.out.mono ?_
 rintro e w6 ⟨v6,rfl,hs6,g6⟩
 have G6:Grew w w6:=Grew.trans G5 g6
 have OC6:=Lib.hid (OC.out l v6 w6 HX.out hs6.out)
 clear hs6 g6
 go_wp2_with fail
 refine OC6.out.mono ?_
 rintro e w7 (⟨r,v7,hq,rfl,hs7,g7⟩ | ⟨hn,v7,rfl,hs7,g7⟩)
 ·have G7:Grew w w7:=Grew.trans G6 g7
  clear g7
  go_wp2_with fail
  refine bodyPost_ret (v:=.tuple #[v7,.bool true,.int .i64 0]) (by simp [results,Tryz.results75,go_sem, *]) rfl (Or.inl ⟨r,_,hq,rfl,(hs7.later G6).grown gw,gw⟩)
 ·have G7:Grew w w7:=Grew.trans G6 g7
  clear g7
  go_wp2_with fail
  refine bodyPost_ret (v:=.tuple #[v7,.bool false,.int .i64 0]) (by simp [results,Tryz.results75,go_sem, *]) rfl (Or.inr ⟨hn,_,rfl,hs7.grown gw,gw⟩)
theorem meetc_ok (K:Hl.CodeN) (p q:List Pt) (v v':Value) (w:World) (hs:Sl w v p) (hs':Sl w v' q) (hp:Vl p) (hq:Vl q):Calls Tryz.prog 75 #[v,v'] w (PolySays (BothS p q) w):=(meetc_new K p q v v' w hs hs' hp hq).mono fun _ _ h => h.says
set_option maxRecDepth 100000 in
set_option maxHeartbeats 4000000 in
theorem meetc_bad (K:Hl.Code) (p q:List Pt) (v v':Value) (w:World) (hs:Sl w v p) (hs':Sl w v' q) (hl:p.length≤9223372036854775807) (hl':q.length≤9223372036854775807) (hb:¬ (Vl p∧Vl q)):Calls Tryz.prog 75 #[v,v'] w (NoSays w):=by
 have PC:Hid (∀ W,Grew w W→Calls Tryz.prog 56 #[v] W fun e w' => ∃ r:Bool,e=.returned (.bool r)∧Hid (r=true↔Vl p)∧Grew W w'):=Lib.hid (fun W g => (K.valid p _ W (hs.grown g) hl).mono (by
  rintro e w' ⟨r,rfl,h,g⟩
  exact ⟨r,rfl,Lib.hid h,g⟩))
 have QC:Hid (∀ W,Grew w W→Calls Tryz.prog 56 #[v'] W fun e w' => ∃ r:Bool,e=.returned (.bool r)∧Hid (r=true↔Vl q)∧Grew W w'):=Lib.hid (fun W g => (K.valid q _ W (hs'.grown g) hl').mono (by
  rintro e w' ⟨r,rfl,h,g⟩
  exact ⟨r,rfl,Lib.hid h,g⟩))
 have HB:=Lib.hid hb
 obtain ⟨sa,sc,rfl⟩:=hs.shape
 obtain ⟨sa',sc',rfl⟩:=hs'.shape
 clear hs hs' hb hl hl'
 go_enter Tryz.func75,Tryz.ntmps75
 go_wp2_with fail
 refine (PC.out _ (Grew.refl _)).mono ?_
 rintro e w1 ⟨r,rfl,hr,g1⟩
 have G1:Grew w w1:=g1
 cases r
 ·clear g1
  go_wp2_with fail
  refine bodyPost_ret (v:=.tuple #[.slice none 0 0,.bool false,.int .i64 1]) (by simp [results,Tryz.results75,go_sem, *]) rfl ⟨_,rfl,sl_none _ _ _,gw⟩
 ·go_wp2_with fail
  refine (QC.out _ G1).mono ?_
  rintro e w2 ⟨r',rfl,hr',g2⟩
  have G1:Grew w w2:=Grew.trans G1 g2
  clear g1 g2
  cases r'
  ·go_wp2_with fail
   refine bodyPost_ret (v:=.tuple #[.slice none 0 0,.bool false,.int .i64 1]) (by simp [results,Tryz.results75,go_sem, *]) rfl ⟨_,rfl,sl_none _ _ _,gw⟩
  ·exact absurd ⟨hr.out.1 (by first | rfl | trivial),hr'.out.1 (by first | rfl | trivial)⟩ HB.out
end Ct
end Go.Proofs.YtbpgfenippiepaaGreatDoor
namespace Go.Proofs.YtbpgfenippiepaaGreatDoor
open Go.RowKit Go.Shelf Hl
end Go.Proofs.YtbpgfenippiepaaGreatDoor
namespace Go.Proofs.YtbpgfenippiepaaGreatDoor
open Go.RowKit Go.Shelf Hl
namespace Ct
theorem landed:Code where
 in_ok:=inc_ok Hl.landed
 in_bad:=inc_bad Hl.landed
 cut_ok:=cutc_ok Hl.landedN
 cut_bad:=cutc_bad Hl.landed
 meet_ok:=meetc_ok Hl.landedN
 meet_bad:=meetc_bad Hl.landed
structure CodeN:Prop extends Code where
 cut_new:∀ (p:List Pt) (h:Hf) (v:Value) (w:World),Sl w v p→Vl p→WF h→Calls Tryz.prog 126 #[v,.agg #[.int .i64 h.1,.int .i64 h.2.1,.int .i64 h.2.2]] w (PolyNew (LeftS p h) w)
 meet_new:∀ (p q:List Pt) (v v':Value) (w:World),Sl w v p→Sl w v' q→Vl p→Vl q→Calls Tryz.prog 75 #[v,v'] w (PolyNew (BothS p q) w)
theorem landedN:CodeN:={ landed with cut_new:=cutc_new Hl.landedN,meet_new:=meetc_new Hl.landedN }
end Ct
end Go.Proofs.YtbpgfenippiepaaGreatDoor
namespace Go.Proofs.YtbpgfenippiepaaGreatDoor
open Go.RowKit Go.Shelf Hl
namespace Rg
open Ct (Hf WF LeftS BothS Poly)
def hth (H:List Hf) (k:Nat):Hf:=H.getD k (0,0,0)
def HSl (w:World) (v:Value) (H:List Hf):Prop:=∃ b o c,v=.slice (some ⟨b,o,none⟩) H.length c∧b < w.heap.size∧∀ k,k < H.length→w.cell? ⟨b,o+k * 3,none⟩=some (.int .i64 (hth H k).1)∧w.cell? ⟨b,o+k * 3+1,none⟩=some (.int .i64 (hth H k).2.1)∧w.cell? ⟨b,o+k * 3+2,none⟩=some (.int .i64 (hth H k).2.2)
theorem HSl.grown {w w':World} {v:Value} {H:List Hf} (h:HSl w v H) (g:Grew w w'):HSl w' v H:=by
 obtain ⟨b,o,c,e,hb,hc⟩:=h
 exact ⟨b,o,c,e,Nat.lt_of_lt_of_le hb g.size,fun k hk => ⟨(Grew.cell g hb).trans (hc k hk).1,(Grew.cell g hb).trans (hc k hk).2.1,(Grew.cell g hb).trans (hc k hk).2.2⟩⟩
theorem rwell_c (C:Ct.Code) (h:Hf) (w:World):Calls Tryz.prog 124 #[.agg #[.int .i64 h.1,.int .i64 h.2.1,.int .i64 h.2.2]] w (Tells (WF h) w):=by
 by_cases hh:WF h
 ·have IC:Hid (∀ W,Calls Tryz.prog 160 #[.agg #[.int .i64 h.1,.int .i64 h.2.1,.int .i64 h.2.2],.agg #[.int .i64 0,.int .i64 0]] W (Ct.YesNo (Ct.ov h (0,0)≤0) W)):=Lib.hid (fun W => C.in_ok h (0,0) W hh (by decide))
  have HH:=Lib.hid hh
  clear hh C
  go_enter Tryz.func124,Tryz.ntmps124
  go_wp2_with fail
  refine (IC.out _).mono ?_
  rintro e w1 ⟨r,rfl,_,g1⟩
  go_wp2_with fail
  go_ret
  exact Tells.yes HH.out rfl (((Grew.refl w).alloc _ _).trans g1)
 ·have IC:Hid (∀ W,Calls Tryz.prog 160 #[.agg #[.int .i64 h.1,.int .i64 h.2.1,.int .i64 h.2.2],.agg #[.int .i64 0,.int .i64 0]] W fun e w' => e=.returned (.tuple #[.bool false,.int .i64 1])∧Grew W w'):=Lib.hid (fun W => C.in_bad h (0,0) W (fun k => hh k.1))
  have HH:=Lib.hid hh
  clear hh C
  go_enter Tryz.func124,Tryz.ntmps124
  go_wp2_with fail
  refine (IC.out _).mono ?_
  rintro e w1 ⟨rfl,g1⟩
  go_wp2_with fail
  go_ret
  exact Tells.no HH.out rfl (((Grew.refl w).alloc _ _).trans g1)
theorem col_add {P:Nat→Rgn→Prop} {n:Nat}:∀ {m:Nat} {c:Rgn},Col P (n+m) c→∃ a b,Col P n a∧Col (fun k => P (n+k)) m b∧c=a ++ b
 | 0,c,h => ⟨c,[],h,rfl,by simp⟩
 | m+1,c,⟨x,y,hx,hy,e⟩ => by
   obtain ⟨a,b,ha,hb,e'⟩:=col_add hx
   exact ⟨a,b ++ y,ha,⟨b,y,hb,hy,rfl⟩,by rw [e,e',List.append_assoc]⟩
theorem col_same {P P':Nat→Rgn→Prop}:∀ {n:Nat} {c:Rgn},(∀ m r,m < n→P m r→P' m r)→Col P n c→Col P' n c
 | 0,_,_,h => h
 | n+1,_,hP,⟨a,b,ha,hb,e⟩ => ⟨a,b,col_same (fun m r hm => hP m r (by omega)) ha,hP n b (by omega) hb,e⟩
theorem col_two {Q:Nat→Nat→Rgn→Prop} {n2:Nat}:∀ {n1:Nat} {c:Rgn},Col (fun m => Q (m / n2) (m % n2)) (n1 * n2) c→Col (fun i => Col (fun k => Q i k) n2) n1 c
 | 0,c,h => by
   rw [Nat.zero_mul] at h
   exact h
 | n1+1,c,h => by
   rw [Nat.add_mul,Nat.one_mul] at h
   obtain ⟨a,b,ha,hb,e⟩:=col_add h
   exact ⟨a,b,col_two ha,col_same (fun k r hk h => by rwa [(div_at hk).1,(div_at hk).2] at h) hb,e⟩
end Rg
end Go.Proofs.YtbpgfenippiepaaGreatDoor
