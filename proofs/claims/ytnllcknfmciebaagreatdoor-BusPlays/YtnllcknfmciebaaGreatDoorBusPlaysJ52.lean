/- A machine under any reads, writes and ticks is the document's: the walk. -/
import Derived.Test.YtnllcknfmciebaaGreatDoorBusPlaysJ37
import Derived.Test.YtnllcknfmciebaaGreatDoorBusPlaysJ41
import Derived.Test.YtnllcknfmciebaaGreatDoorBusPlaysJ51
import Derived.Test.YtnllcknfmciebaaGreatDoorBusPlaysJ50
import Derived.Test.YtnllcknfmciebaaGreatDoorBusPlaysJ36
namespace Go.Proofs.YtnllcknfmciebaaGreatDoor
set_option maxRecDepth 20000
open B4 C3 D24 G6 I11 J23 L24 L25 M5 P22 R15 T10 V12 W13
open Go.RowKit
set_option linter.unusedVariables false
def Duo (W:World) (qm b v c d b' c' d' r' ga:Nat) (bs:List Int) (row:Array Value) (Zp Zd:Nat→Nat→Int) (w:World):Prop:=
 HasP w b v c d bs Zp∧HasD w b' c' d' r' ((bs.length/8192:Nat):Int) (.slice (some ⟨qm,0,none⟩) bs.length bs.length) Zd∧Bytes 5 w qm bs∧w.heap[ga]? = some (.cells row 31 (0,0))∧Below W.heap.size W w
def AllApart (W:World) (qm b v c d b' c' d' r' ga:Nat):Prop:=Apart W qm b v c d b' c' d' r'∧(ga≠b∧ga≠v∧ga≠b'∧ga≠c'∧ga≠d'∧ga≠r')
theorem Duo.next {W w:World} {qm b v c d b' c' d' r' ga:Nat} {bs:List Int} {row:Array Value} {Zp Zd:Nat→Nat→Int} (h:Duo W qm b v c d b' c' d' r' ga bs row Zp Zd w) {w':World} (k:Below w.heap.size w w'):Duo W qm b v c d b' c' d' r' ga bs row Zp Zd w':=⟨h.1.next k,h.2.1.next k,h.2.2.1.next k,(k.block ga (lt_of_block h.2.2.2.1)).trans h.2.2.2.1,bnext h.2.2.2.2 k⟩
theorem Duo.drew {W w:World} {qm b v c d b' c' d' r' ga:Nat} {bs:List Int} {row:Array Value} {Zp Zd:Nat→Nat→Int} (h:Duo W qm b v c d b' c' d' r' ga bs row Zp Zd w):Duo W qm b v c d b' c' d' r' ga bs row Zp Zd w.drew:=h.next (Below.refl _ w).drew
theorem Duo.at {W w:World} {qm b v c d b' c' d' r' ga:Nat} {bs:List Int} {row:Array Value} {Zp Zd:Nat→Nat→Int} (h:Duo W qm b v c d b' c' d' r' ga bs row Zp Zd w) (j:Nat) {x:Value} (hj:row[j]? = some x):w.cell? ⟨ga,j,none⟩=some x:=(cell_of_row w ga j _ _ _ h.2.2.2.1).trans hj
theorem Duo.p {W w:World} {qm b v c d b' c' d' r' ga:Nat} {bs:List Int} {row:Array Value} {Zp Zd:Nat→Nat→Int} (h:Duo W qm b v c d b' c' d' r' ga bs row Zp Zd w) (ap:AllApart W qm b v c d b' c' d' r' ga) {w':World} {Z':Nat→Nat→Int} (x:HasP w' b v c d bs Z') (o:OnlyE (EX b v) w w'):Duo W qm b v c d b' c' d' r' ga bs row Z' Zd w':=by
 obtain ⟨⟨⟨l0,l1,l2,l3,l4,l5,l6⟩,⟨q1,q2,_⟩,⟨NN,⟨n1,n2,n3,n4⟩,n5,n6,n7,n8⟩⟩,g1,g2,_⟩:=ap
 have ne:∀k,k≠b→k≠v→¬EX b v k:=fun k k1 k2 e=>by
  rcases e with e|e
  ·exact k1 e
  ·exact k2 e
 exact ⟨x,h.2.1.only o (ne _ (by omega) (by omega)) (ne _ (by omega) (by omega)) (ne _ (by omega) (by omega)) (ne _ (by omega) (by omega)),⟨o.obj h.2.2.1.1 (ne _ q1 q2),h.2.2.1.2⟩,o.obj h.2.2.2.1 (ne _ g1 g2),h.2.2.2.2.trans (o.below (fun k e=>by
  rcases e with e|e
  ·omega
  ·omega) h.2.2.2.2.size)⟩
theorem Duo.d {W w:World} {qm b v c d b' c' d' r' ga:Nat} {bs:List Int} {row:Array Value} {Zp Zd:Nat→Nat→Int} (h:Duo W qm b v c d b' c' d' r' ga bs row Zp Zd w) (ap:AllApart W qm b v c d b' c' d' r' ga) (hT:Tabs W) {w':World} {Z':Nat→Nat→Int} (y:HasD w' b' c' d' r' ((bs.length/8192:Nat):Int) (.slice (some ⟨qm,0,none⟩) bs.length bs.length) Z') (o:OnlyE (D24.EY b' c' d' r') w w'):Duo W qm b v c d b' c' d' r' ga bs row Zp Z' w':=by
 obtain ⟨⟨⟨l0,l1,l2,l3,l4,l5,l6⟩,⟨q1,q2,q3,q4,q5,q6⟩,⟨NN,⟨n1,n2,n3,n4⟩,n5,n6,n7,n8⟩⟩,g1,g2,g3,g4,g5,g6⟩:=ap
 have ne:∀k,k≠b'→k≠c'→k≠d'→k≠r'→¬D24.EY b' c' d' r' k:=fun k k1 k2 k3 k4 e=>by
  rcases e with e|e|e|e
  ·exact k1 e
  ·exact k2 e
  ·exact k3 e
  ·exact k4 e
 have ge:∀i,D24.EY b' c' d' r' i→W.heap.size≤i:=fun i e=>by
  rcases e with e|e|e|e
  ·omega
  ·omega
  ·omega
  ·omega
 exact ⟨h.1.only o (ne _ (by omega) (by omega) (by omega) (by omega)) (ne _ (by omega) (by omega) (by omega) (by omega)) (ne _ (by omega) (by omega) (by omega) (by omega)) (ne _ (by omega) (by omega) (by omega) (by omega)) (fun i e=>hT.high (ge i e)),y,⟨o.obj h.2.2.1.1 (ne _ q3 q4 q5 q6),h.2.2.1.2⟩,o.obj h.2.2.2.1 (ne _ g3 g4 g5 g6),h.2.2.2.2.trans (o.below ge h.2.2.2.2.size)⟩
theorem ap_ex {W:World} {qm b v c d b' c' d' r':Nat} (ap:Apart W qm b v c d b' c' d' r'):¬EX b v b'∧¬EX b v c'∧¬EX b v d'∧¬EX b v r':=by
 obtain ⟨_,_,⟨NN,⟨n1,n2,n3,n4⟩,n5,n6,n7,n8⟩⟩:=ap
 have ne:∀k,NN≤k→¬EX b v k:=fun k hk e=>by
  rcases e with e|e
  ·omega
  ·omega
 exact ⟨ne _ n5,ne _ n6,ne _ n7,ne _ n8⟩
theorem Play.p {W w:World} {qm b v c d b' c' d' r':Nat} {bs:List Int} {Z:Nat→Nat→Int} (h:Play W w qm b v c d b' c' d' r' bs Z) (ap:Apart W qm b v c d b' c' d' r') {w':World} (x:HasP w' b v c d bs (setZ Z)) (o:OnlyE (EX b v) w w'):Play W w' qm b v c d b' c' d' r' bs (setZ Z):=by
 have ne:=ap_ex ap
 obtain ⟨⟨l0,l1,l2,l3,l4,l5,l6⟩,⟨q1,q2,_⟩,_⟩:=ap
 have nq:¬EX b v qm:=fun e=>by
  rcases e with e|e
  ·exact q1 e
  ·exact q2 e
 have y:=h.2.1.only o ne.1 ne.2.1 ne.2.2.1 ne.2.2.2
 rw [←set_set] at y
 exact ⟨x,y,⟨o.obj h.2.2.1.1 nq,h.2.2.1.2⟩,good_set h.2.2.2.1,h.2.2.2.2.trans (o.below (fun k e=>by
  rcases e with e|e
  ·omega
  ·omega) h.2.2.2.2.size)⟩
theorem p_lag {w:World} {b v c d:Nat} {bs:List Int} {Z:Nat→Nat→Int} (h:HasP w b v c d bs Z) (n:Int):HasP (w.setCell ⟨b,9262,none⟩ (.int .i64 n)) b v c d bs (upZ Z 17 (oneV n))∧OnlyE (EX b v) w (w.setCell ⟨b,9262,none⟩ (.int .i64 n))∧w.cell? ⟨b,9262,none⟩=some (.int .i64 (Z 17 0))∧w.frozen? ⟨b,9262,none⟩=false:=by
 have k:=HasX.lag h (t:=Z 17 0) rfl n
 exact ⟨k.1,k.2.1,k.2.2.1,k.2.2.2⟩
theorem act_at {w:World} {a:Option Addr} {len cap:Nat} (h:IsStructs [some .i64,some .i64,some .i64] w a len cap) (i:Nat) (hi:i<len):∃b off k n x,a=some ⟨b,off,none⟩∧b<w.heap.size∧len≤cap∧cap≤maxLen ∧
  ∀w',Below w.heap.size w w'→w'.cell? ⟨b,off+i*3,none⟩=some (.int .i64 k)∧w'.cell? ⟨b,off+i*3+1,none⟩=some (.int .i64 n)∧w'.cell? ⟨b,off+i*3+2,none⟩=some (.int .i64 x):=by
 obtain ⟨b,off,e,hb,h1,h2,hc⟩:=IsStructs.cells h (by omega)
 obtain ⟨v0,⟨k,rfl,_⟩,c0⟩:=hc i hi 0 _ rfl
 obtain ⟨v1,⟨n,rfl,_⟩,c1⟩:=hc i hi 1 _ rfl
 obtain ⟨v2,⟨x,rfl,_⟩,c2⟩:=hc i hi 2 _ rfl
 exact ⟨b,off,k,n,x,e,hb,h1,h2,fun w' bw=>⟨(bw.cell (p:=⟨b,_,none⟩) hb).trans c0,(bw.cell (p:=⟨b,_,none⟩) hb).trans c1,(bw.cell (p:=⟨b,_,none⟩) hb).trans c2⟩⟩
theorem six_in (n:Int):Int.tmod (bits .and .i64 n 63) 6=n%64%6∧(n%64%6=0∨n%64%6=1∨n%64%6=2∨n%64%6=3∨n%64%6=4∨n%64%6=5):=by
 have e:bits .and .i64 n 63=n%64:=and_mask 6 (by decide) n
 rw [e]
 exact ⟨Int.tmod_eq_emod_of_nonneg (by omega),by omega⟩
theorem shift_in (k:Int) (h:k=0∨k=1∨k=2∨k=3∨k=4∨k=5):∃n:Int,wrap64 (2 ^ k.toNat)=n∧(n=1∨n=2∨n=4∨n=8∨n=16∨n=32):=by
 rcases h with rfl|rfl|rfl|rfl|rfl|rfl
 ·exact ⟨1,by rw [show Int.toNat 0=0 from rfl];unfold wrap64;decide,by decide⟩
 ·exact ⟨2,by rw [show Int.toNat 1=1 from rfl];unfold wrap64;decide,by decide⟩
 ·exact ⟨4,by rw [show Int.toNat 2=2 from rfl];unfold wrap64;decide,by decide⟩
 ·exact ⟨8,by rw [show Int.toNat 3=3 from rfl];unfold wrap64;decide,by decide⟩
 ·exact ⟨16,by rw [show Int.toNat 4=4 from rfl];unfold wrap64;decide,by decide⟩
 ·exact ⟨32,by rw [show Int.toNat 5=5 from rfl];unfold wrap64;decide,by decide⟩
set_option maxHeartbeats 4000000 in
theorem busPlays_walk (a0:Int) (a1:Option Addr) (len1 cap1:Nat) (z1:List Int) (a2:Option Addr) (len2 cap2:Nat) (W:World) (w0:(Lit.int .i64 a0).wf=true) (w1:IsRow .u8 W a1 len1 cap1 z1) (w2:IsStructs [some .i64,some .i64,some .i64] W a2 len2 cap2) (hL:Tabs W∧HasErr W):
  Calls Tryz.prog 3 #[.int .i64 a0,.slice a1 len1 cap1,.slice a2 len2 cap2] W fun e w'=>e=.returned (.bool true)∧Below W.heap.size W w':=by
 obtain ⟨N,hN,hK⟩:=made_any 1 32 837 0 0 a0 a1 len1 cap1 z1 hL.1 hL.2 w1
 have HK:=hide hK
 have HT:=hide hL.1
 have RA:=hide w2
 have hm:=w2.max
 have LN:=hide hN
 have hx2:len2<9223372036854775808:=by simp [maxLen] at hm;omega
 clear hK hL w0 w1 w2 hm hN
 go_enter Tryz.func3,Tryz.ntmps3
 go_wp2_with fail
 refine HK.out.mono ?_
 rintro e wm ⟨qm,b,v,c,d,b',c',d',r',bs,K,rfl,hl,pl,ap⟩
 have h8:bs.length/8192=N:=by omega
 have HKN:=hide (show known ((bs.length/8192:Nat):Int)=true by rw [h8];rcases LN.out with e|e|e|e<;>subst e<;>decide)
 have H320:=hide (show bs.length/8192≠320 by have:=LN.out;omega)
 have AP:=hide ap
 have PM:=hide pl
 have NX:=hide (ap_ex ap)
 clear hl pl ap HK h8 LN
 go_wp2_with fail
 refine (like_is PM.out.1 PM.out.2.1 NX.out.1 NX.out.2.1 NX.out.2.2.1 NX.out.2.2.2).mono ?_
 rintro e w1 ⟨rfl,x1,o1⟩
 obtain ⟨Zs,hZs⟩:∃Zs,setZ (Z0 K 5)=Zs:=⟨_,rfl⟩
 have LS:=hide (show Zs 17 0≤0 by rw [←hZs];exact Int.le_refl 0)
 have P1:=hide (show Play W w1 qm b v c d b' c' d' r' bs Zs by rw [←hZs];exact PM.out.p AP.out x1 o1)
 clear x1 o1 PM hZs
 go_wp2_with fail
 go_loopw [9] (fun v9 wr=>∃(i:Nat) (Z:Nat→Nat→Int),i≤150∧v9=.int .i64 (i:Int)∧Play W wr qm b v c d b' c' d' r' bs Z∧Z 17 0≤32767*(i:Int)) (fun v9 _=>150-(intOf v9).toNat)
 case atStart=>exact ⟨0,Zs,by decide,rfl,P1.out,LS.out⟩
 case round=>
  clear P1 LS
  obtain ⟨i,Z,hi,rfl,hpl,hz⟩:=hrel
  have PR:=hide hpl
  have HZ:=hide hz
  clear hpl hz
  by_cases hlt:i<len2
  ·by_cases h150:i<150
   ·obtain ⟨ab,off,kk,At,Vv,rfl,hab,hc1,hc2,hcs⟩:=act_at RA.out i hlt
    obtain ⟨c0,c1,c2⟩:=hcs wr PR.out.2.2.2.2
    clear hcs
    obtain ⟨ga,hga⟩:∃ga,wr.heap.size=ga:=⟨_,rfl⟩
    obtain ⟨wa,hwa⟩:∃wa,wa=wr.alloc (.cells #[.int .i64 kk,.int .i64 At,.int .i64 Vv] 31):=⟨_,rfl⟩
    have bA:Below wr.heap.size wr wa:=by rw [hwa];exact (Below.refl _ _).alloc (Nat.le_refl _) _
    have D0:=hide (show Duo W qm b v c d b' c' d' r' ga bs #[.int .i64 kk,.int .i64 At,.int .i64 Vv] Z (setZ Z) wa from ⟨PR.out.1.next bA,PR.out.2.1.next bA,PR.out.2.2.1.next bA,by rw [hwa,←hga];exact heap_alloc_new _ _,bnext PR.out.2.2.2.2 bA⟩)
    have AA:=hide (show AllApart W qm b v c d b' c' d' r' ga from ⟨AP.out,by
     have e1:=PR.out.1.1.lt
     have e2:=PR.out.1.2.1.lt
     have e3:=PR.out.2.1.1.lt
     have e4:=PR.out.2.1.2.1.lt
     have e5:=lt_of_block PR.out.2.1.2.1.2.1
     have e6:=PR.out.2.1.2.2.1.lt
     omega⟩)
    have GK:=hide PR.out.2.2.2.1
    have HWA:=hide hwa
    clear hwa bA PR
    have e9:Int.tmod (i:Int) 9=(i:Int)%9:=Int.tmod_eq_emod_of_nonneg (by omega)
    have dl:decide ((i:Int)<(len2:Int))=true:=by simp;omega
    have d150:decide ((i:Int)<150)=true:=by simp;omega
    by_cases k0:kk=0
    ·subst k0
     obtain ⟨rx,hrx⟩:∃rx,rdV bs Z At=rx:=⟨_,rfl⟩
     obtain ⟨Z1,hZ1⟩:∃Z1,rdZ Z At=Z1:=⟨_,rfl⟩
     have KX:Hid (∀y,Duo W qm b v c d b' c' d' r' ga bs #[.int .i64 0,.int .i64 At,.int .i64 Vv] Z (setZ Z) y→Calls Tryz.prog 6 #[.pointer (some ⟨b,0,none⟩),.int .i64 At] y fun e y'=>e=Ending.returned (.int .i64 rx)∧Duo W qm b v c d b' c' d' r' ga bs #[.int .i64 0,.int .i64 At,.int .i64 Vv] Z1 (setZ Z) y'):=hide (fun y q0=>((sim_rd GK.out b v c d bs HKN.out At hrx hZ1).2.2 y q0.1).mono fun e y' ⟨e1,p1,o1⟩=>⟨e1,q0.p AA.out p1 o1⟩)
     have KD:Hid (∀y,Duo W qm b v c d b' c' d' r' ga bs #[.int .i64 0,.int .i64 At,.int .i64 Vv] Z1 (setZ Z) y→Calls Tryz.prog 7 #[.pointer (some ⟨b',0,none⟩),.int .i64 At] y fun e y'=>e=Ending.returned (.int .i64 rx)∧Duo W qm b v c d b' c' d' r' ga bs #[.int .i64 0,.int .i64 At,.int .i64 Vv] Z1 (setZ Z1) y'):=hide (fun y q0=>(doc_rd GK.out q0.2.1 q0.2.2.1 HKN.out At).mono fun e y' ⟨e1,p1,o1⟩=>⟨by rw [←hrx];exact e1,by rw [hZ1] at p1;exact q0.d AA.out HT.out p1 o1⟩)
     have G9:=hide (sim_rd GK.out b v c d bs HKN.out At hrx hZ1).1
     have L9:=hide (show Z1 17 0≤32767*((i:Int)+1) by have:=(sim_rd GK.out b v c d bs HKN.out At hrx hZ1).2.1;have:=HZ.out;omega)
     clear hrx hZ1
     go_wp2_with fail
     rw [←HWA.out]
     clear c0 c1 c2
     refine wp_region_state (ofList [.pointer (some ⟨b,0,none⟩),.pointer (some ⟨ga,1,none⟩),.int .i64 At,.int .i64 rx,.pointer (some ⟨b',0,none⟩),.pointer (some ⟨ga,1,none⟩),.int .i64 At,.int .i64 rx,.bool false]) (fun dd ww=>(stgs [Duo W qm b v c d b' c' d' r' ga bs #[.int .i64 0,.int .i64 At,.int .i64 Vv] Z (setZ Z),Duo W qm b v c d b' c' d' r' ga bs #[.int .i64 0,.int .i64 At,.int .i64 Vv] Z1 (setZ Z),Duo W qm b v c d b' c' d' r' ga bs #[.int .i64 0,.int .i64 At,.int .i64 Vv] Z1 (setZ Z1)]) (cntD [3,7] dd) ww) _ (fun vals=>by simp only [putAll,Act.put,List.setIfInBounds_toArray,List.set_cons_succ,List.set_cons_zero,Nat.reduceAdd];rfl) (by kernel_rfl) (by kernel_rfl) (by kernel_rfl) (fun dn hd=>stage_none (A:=(stgs [Duo W qm b v c d b' c' d' r' ga bs #[.int .i64 0,.int .i64 At,.int .i64 Vv] Z (setZ Z),Duo W qm b v c d b' c' d' r' ga bs #[.int .i64 0,.int .i64 At,.int .i64 Vv] Z1 (setZ Z),Duo W qm b v c d b' c' d' r' ga bs #[.int .i64 0,.int .i64 At,.int .i64 Vv] Z1 (setZ Z1)])) hd (D0.out.drew)) ?_ ?_
     ·refine stepsS_cons (fun vals dn x hi hc hk hs=>?_) (stepsS_cons (fun vals dn x hi hc hk hs=>?_) (stepsS_cons (fun vals dn x hi hc hk hs=>?_) (stepsS_cons (fun vals dn x hi hc hk hs=>?_) (stepsS_cons (fun vals dn x hi hc hk hs=>?_) (stepsS_cons (fun vals dn x hi hc hk hs=>?_) (stepsS_cons (fun vals dn x hi hc hk hs=>?_) (stepsS_cons (fun vals dn x hi hc hk hs=>?_) (stepsS_cons (fun vals dn x hi hc hk hs=>?_) stepsS_nil))))))))
      ·set_option maxRecDepth 20000 in
       go_wp2_with fail
       exact postS_mk _ rfl rfl (stage_keep (A:=(stgs [Duo W qm b v c d b' c' d' r' ga bs #[.int .i64 0,.int .i64 At,.int .i64 Vv] Z (setZ Z),Duo W qm b v c d b' c' d' r' ga bs #[.int .i64 0,.int .i64 At,.int .i64 Vv] Z1 (setZ Z),Duo W qm b v c d b' c' d' r' ga bs #[.int .i64 0,.int .i64 At,.int .i64 Vv] Z1 (setZ Z1)])) (ps:=[3,7]) (i:=0) rfl hs)
      ·set_option maxRecDepth 20000 in
       go_wp2_with fail
       exact postS_mk _ rfl rfl (stage_keep (A:=(stgs [Duo W qm b v c d b' c' d' r' ga bs #[.int .i64 0,.int .i64 At,.int .i64 Vv] Z (setZ Z),Duo W qm b v c d b' c' d' r' ga bs #[.int .i64 0,.int .i64 At,.int .i64 Vv] Z1 (setZ Z),Duo W qm b v c d b' c' d' r' ga bs #[.int .i64 0,.int .i64 At,.int .i64 Vv] Z1 (setZ Z1)])) (ps:=[3,7]) (i:=1) rfl hs)
      ·obtain ⟨⟨(h1:vals 1=.pointer (some ⟨ga,1,none⟩)),t1⟩,_⟩:=hk
       simp only [h1]
       clear h1
       have d3:=not_yet hc hi 3 60 (by kernel_rfl)
       have d7:=not_yet hc hi 7 60 (by kernel_rfl)
       have hn:cntD [3,7] dn=0:=by show (if dn 3=true then 1 else 0)+((if dn 7=true then 1 else 0)+0)=0;rw [d3,d7];rfl
       have hs1:=stage_at (A:=(stgs [Duo W qm b v c d b' c' d' r' ga bs #[.int .i64 0,.int .i64 At,.int .i64 Vv] Z (setZ Z),Duo W qm b v c d b' c' d' r' ga bs #[.int .i64 0,.int .i64 At,.int .i64 Vv] Z1 (setZ Z),Duo W qm b v c d b' c' d' r' ga bs #[.int .i64 0,.int .i64 At,.int .i64 Vv] Z1 (setZ Z1)])) hn hs
       have q:=(fun h:Duo W qm b v c d b' c' d' r' ga bs #[.int .i64 0,.int .i64 At,.int .i64 Vv] Z (setZ Z) x=>h.at 1 (x:=.int .i64 At) rfl) hs1
       go_wp2_with fail
       exact postS_mk _ rfl rfl (stage_keep (A:=(stgs [Duo W qm b v c d b' c' d' r' ga bs #[.int .i64 0,.int .i64 At,.int .i64 Vv] Z (setZ Z),Duo W qm b v c d b' c' d' r' ga bs #[.int .i64 0,.int .i64 At,.int .i64 Vv] Z1 (setZ Z),Duo W qm b v c d b' c' d' r' ga bs #[.int .i64 0,.int .i64 At,.int .i64 Vv] Z1 (setZ Z1)])) (ps:=[3,7]) (i:=2) rfl hs)
      ·obtain ⟨⟨(h0:vals 0=.pointer (some ⟨b,0,none⟩)),t0⟩,⟨(h2:vals 2=.int .i64 At),t2⟩,_⟩:=hk
       simp only [h0,h2]
       clear h0 h2
       have d3:=hi
       have d7:=not_yet hc hi 7 60 (by kernel_rfl)
       have hn:cntD [3,7] dn=0:=by show (if dn 3=true then 1 else 0)+((if dn 7=true then 1 else 0)+0)=0;rw [d3,d7];rfl
       have hs1:=stage_at (A:=(stgs [Duo W qm b v c d b' c' d' r' ga bs #[.int .i64 0,.int .i64 At,.int .i64 Vv] Z (setZ Z),Duo W qm b v c d b' c' d' r' ga bs #[.int .i64 0,.int .i64 At,.int .i64 Vv] Z1 (setZ Z),Duo W qm b v c d b' c' d' r' ga bs #[.int .i64 0,.int .i64 At,.int .i64 Vv] Z1 (setZ Z1)])) hn hs
       have hn2:cntD [3,7] (updD dn 3)=1:=by show (if updD dn 3 3=true then 1 else 0)+((if updD dn 3 7=true then 1 else 0)+0)=1;rw [updD_same,updD_other dn (show ¬7=3 by decide),d7];rfl
       have HN2:=hide hn2
       clear hn hn2 d7
       have HS:=hide hs1
       clear hs hs1
       go_wp2_with fail
       refine (KX.out _ HS.out).mono ?_
       rintro e x2 ⟨rfl,h2⟩
       have H2:=hide h2
       clear h2 HS
       go_wp2_with fail
       exact postS_mk _ rfl rfl (stage_of (A:=(stgs [Duo W qm b v c d b' c' d' r' ga bs #[.int .i64 0,.int .i64 At,.int .i64 Vv] Z (setZ Z),Duo W qm b v c d b' c' d' r' ga bs #[.int .i64 0,.int .i64 At,.int .i64 Vv] Z1 (setZ Z),Duo W qm b v c d b' c' d' r' ga bs #[.int .i64 0,.int .i64 At,.int .i64 Vv] Z1 (setZ Z1)])) HN2.out H2.out)
      ·set_option maxRecDepth 20000 in
       go_wp2_with fail
       exact postS_mk _ rfl rfl (stage_keep (A:=(stgs [Duo W qm b v c d b' c' d' r' ga bs #[.int .i64 0,.int .i64 At,.int .i64 Vv] Z (setZ Z),Duo W qm b v c d b' c' d' r' ga bs #[.int .i64 0,.int .i64 At,.int .i64 Vv] Z1 (setZ Z),Duo W qm b v c d b' c' d' r' ga bs #[.int .i64 0,.int .i64 At,.int .i64 Vv] Z1 (setZ Z1)])) (ps:=[3,7]) (i:=4) rfl hs)
      ·set_option maxRecDepth 20000 in
       go_wp2_with fail
       exact postS_mk _ rfl rfl (stage_keep (A:=(stgs [Duo W qm b v c d b' c' d' r' ga bs #[.int .i64 0,.int .i64 At,.int .i64 Vv] Z (setZ Z),Duo W qm b v c d b' c' d' r' ga bs #[.int .i64 0,.int .i64 At,.int .i64 Vv] Z1 (setZ Z),Duo W qm b v c d b' c' d' r' ga bs #[.int .i64 0,.int .i64 At,.int .i64 Vv] Z1 (setZ Z1)])) (ps:=[3,7]) (i:=5) rfl hs)
      ·obtain ⟨⟨(h5:vals 5=.pointer (some ⟨ga,1,none⟩)),t5⟩,_⟩:=hk
       simp only [h5]
       clear h5
       have hs1:=hs
       have q:=stgs_case3 hs1 (cntD_le [3,7] dn) (fun h=>h.at 1 (x:=.int .i64 At) rfl) (fun h=>h.at 1 (x:=.int .i64 At) rfl) (fun h=>h.at 1 (x:=.int .i64 At) rfl)
       go_wp2_with fail
       exact postS_mk _ rfl rfl (stage_keep (A:=(stgs [Duo W qm b v c d b' c' d' r' ga bs #[.int .i64 0,.int .i64 At,.int .i64 Vv] Z (setZ Z),Duo W qm b v c d b' c' d' r' ga bs #[.int .i64 0,.int .i64 At,.int .i64 Vv] Z1 (setZ Z),Duo W qm b v c d b' c' d' r' ga bs #[.int .i64 0,.int .i64 At,.int .i64 Vv] Z1 (setZ Z1)])) (ps:=[3,7]) (i:=6) rfl hs)
      ·obtain ⟨⟨(h4:vals 4=.pointer (some ⟨b',0,none⟩)),t4⟩,⟨(h6:vals 6=.int .i64 At),t6⟩,⟨(h3:vals 3=.int .i64 rx),t3⟩,_⟩:=hk
       simp only [h4,h6]
       clear h4 h6 h3
       have d3:=t3
       have d7:=hi
       have hn:cntD [3,7] dn=1:=by show (if dn 3=true then 1 else 0)+((if dn 7=true then 1 else 0)+0)=1;rw [d3,d7];rfl
       have hs1:=stage_at (A:=(stgs [Duo W qm b v c d b' c' d' r' ga bs #[.int .i64 0,.int .i64 At,.int .i64 Vv] Z (setZ Z),Duo W qm b v c d b' c' d' r' ga bs #[.int .i64 0,.int .i64 At,.int .i64 Vv] Z1 (setZ Z),Duo W qm b v c d b' c' d' r' ga bs #[.int .i64 0,.int .i64 At,.int .i64 Vv] Z1 (setZ Z1)])) hn hs
       have hn2:cntD [3,7] (updD dn 7)=2:=by show (if updD dn 7 3=true then 1 else 0)+((if updD dn 7 7=true then 1 else 0)+0)=2;rw [updD_other dn (show ¬3=7 by decide),updD_same,d3];rfl
       have HN2:=hide hn2
       clear hn hn2 d3
       have HS:=hide hs1
       clear hs hs1
       go_wp2_with fail
       refine (KD.out _ HS.out).mono ?_
       rintro e x2 ⟨rfl,h2⟩
       have H2:=hide h2
       clear h2 HS
       go_wp2_with fail
       exact postS_mk _ rfl rfl (stage_of (A:=(stgs [Duo W qm b v c d b' c' d' r' ga bs #[.int .i64 0,.int .i64 At,.int .i64 Vv] Z (setZ Z),Duo W qm b v c d b' c' d' r' ga bs #[.int .i64 0,.int .i64 At,.int .i64 Vv] Z1 (setZ Z),Duo W qm b v c d b' c' d' r' ga bs #[.int .i64 0,.int .i64 At,.int .i64 Vv] Z1 (setZ Z1)])) HN2.out H2.out)
      ·obtain ⟨⟨(h3:vals 3=.int .i64 rx),t3⟩,⟨(h7:vals 7=.int .i64 rx),t7⟩,_⟩:=hk
       simp only [h3,h7]
       clear h3 h7
       go_wp2_with fail
       exact postS_mk _ rfl rfl (stage_keep (A:=(stgs [Duo W qm b v c d b' c' d' r' ga bs #[.int .i64 0,.int .i64 At,.int .i64 Vv] Z (setZ Z),Duo W qm b v c d b' c' d' r' ga bs #[.int .i64 0,.int .i64 At,.int .i64 Vv] Z1 (setZ Z),Duo W qm b v c d b' c' d' r' ga bs #[.int .i64 0,.int .i64 At,.int .i64 Vv] Z1 (setZ Z1)])) (ps:=[3,7]) (i:=8) rfl hs)
     rintro vals dn x hall hs hv
     obtain ⟨_,_,_,_,_,_,_,_,(h8:vals 8=.bool false),_⟩:=hv
     simp only [h8]
     clear h8
     have hn:cntD [3,7] dn=2:=by show (if dn 3=true then 1 else 0)+((if dn 7=true then 1 else 0)+0)=2;rw [hall 3 (by decide),hall 7 (by decide)];rfl
     have hs:=stage_at (A:=(stgs [Duo W qm b v c d b' c' d' r' ga bs #[.int .i64 0,.int .i64 At,.int .i64 Vv] Z (setZ Z),Duo W qm b v c d b' c' d' r' ga bs #[.int .i64 0,.int .i64 At,.int .i64 Vv] Z1 (setZ Z),Duo W qm b v c d b' c' d' r' ga bs #[.int .i64 0,.int .i64 At,.int .i64 Vv] Z1 (setZ Z1)])) hn hs
     clear hn hall
     have D9:=hide (show Duo W qm b v c d b' c' d' r' ga bs #[.int .i64 0,.int .i64 At,.int .i64 Vv] Z1 (setZ Z1) x from hs)
     clear hs KX KD D0 GK
     by_cases h9:(i:Int)%9=4
     ·set_option maxRecDepth 20000 in
      go_wp2_with fail
      refine (like_is D9.out.1 D9.out.2.1 NX.out.1 NX.out.2.1 NX.out.2.2.1 NX.out.2.2.2).mono ?_
      rintro e wl ⟨rfl,xl,ol⟩
      obtain ⟨Zt,hZt⟩:∃Zt,setZ Z1=Zt:=⟨_,rfl⟩
      have D10:=hide (show Duo W qm b v c d b' c' d' r' ga bs #[.int .i64 0,.int .i64 At,.int .i64 Vv] Zt (setZ Zt) wl by rw [←hZt,set_set];exact D9.out.p AA.out xl ol)
      have G10:=hide (show ∀k,GZ k (Zt k) by rw [←hZt];exact good_set G9.out)
      have L10:=hide (show Zt 17 0≤32767*((i:Int)+1) by rw [←hZt];show (0:Int)≤_;omega)
      clear hZt xl ol D9 G9 L9
      obtain ⟨p,hp⟩:∃p,bits .and .i64 At 8191=p:=⟨_,rfl⟩
      have p0:0≤p∧p<8192:=by rw [←hp];rw [show bits .and .i64 At 8191=At%8192 from and_mask 13 (by decide) At];omega
      have a1:=D10.out.at 1 (x:=.int .i64 At) rfl
      go_wp2_with fail
      have LX:=hide D10.out.1.1.lt
      have LY:=hide D10.out.2.1.1.lt
      have LA:=hide (lt_of_block D10.out.2.2.2.1)
      have ka:=kept_cell a1 LA.out
      obtain ⟨mv,hmv⟩:∃mv,Zt 8 p.toNat=mv:=⟨_,rfl⟩
      have mv0:0≤mv∧mv<256:=by rw [←hmv];exact G10.out 8 p.toNat
      have HMV:=hide hmv
      clear hmv
      have k8:=kept_cell (show wl.cell? ⟨b,283+p.toNat,none⟩=some (.int .u8 mv) from by rw [←HMV.out];exact D10.out.1.1.get 8 rfl p.toNat (by omega) (a:=283+p.toNat) (by rw [D10.out.1.isB.off 8 (a:=283) rfl]) (by omega)) LX.out
      have k1:=kept_cell (show wl.cell? ⟨b,21,none⟩=some (.pointer (some ⟨v,0,none⟩)) from D10.out.1.1.get1 1 rfl (a:=21) (D10.out.1.isB.off 1 rfl) (by decide)) LX.out
      have y3:=kept_cell (show wl.cell? ⟨b',3,none⟩=some (.slice (some ⟨r',0,none⟩) 8192 8192) from D10.out.2.1.1.get1 3 rfl (a:=3) (D10.out.2.1.2.2.2.1.off 3 rfl) (by decide)) LY.out
      have y6:=kept_cell (show wl.cell? ⟨b',33,none⟩=some (.pointer (some ⟨c',0,none⟩)) from D10.out.2.1.1.get1 6 rfl (a:=33) (D10.out.2.1.2.2.2.1.off 6 rfl) (by decide)) LY.out
      have yr:=kept_cell (show wl.cell? ⟨r',p.toNat,none⟩=some (.int .i64 mv) from by rw [←HMV.out];exact HasF.int D10.out.2.1.2.2.1 p.toNat (by omega)) (lt_of_block D10.out.2.1.2.2.1)
      have KV:=hide (fun (x:Kept wl) (n:Int)=>word_is v _ _ _ _ _ _ _ (D10.out.1.next x.below).2.1 n (wordAt (Zt 18) n) rfl)
      have KR:=hide (fun (x:Kept wl) (n:Int)=>rword_is c' d' _ _ _ _ _ _ _ (D10.out.2.1.next x.below).2.1 n (wordAt (Zt 18) n) rfl)
      clear a1
      haveI:=kept_some wl
      refine wp_region_kept (by kernel_rfl) (by kernel_rfl) ?_
      try dsimp only [List.append_eq,List.cons_append,List.nil_append]
      repeat (go_big_quiet_step ((first
       |(go_at_call 13;exact kept_same (KV.out _ _))
       |(go_at_call 14;exact kept_same (KR.out _ _)))))
      refine wpQuiet_nil ?_
      rintro _ ⟨wk,rfl⟩
      have D11:=hide (D10.out.next wk.below)
      clear ka k8 k1 y3 y6 yr KV KR LX LY LA D10
      go_wp2_with fail
      go_roundw
      case rel=>exact ⟨i+1,Zt,by omega,by go_num,⟨D11.out.1,D11.out.2.1,D11.out.2.2.1,G10.out,D11.out.2.2.2.2⟩,by have:=L10.out;omega⟩
      case measure=>simp [intOf];omega
     ·obtain ⟨Zt,hZt⟩:∃Zt,Zt=Z1:=⟨_,rfl⟩
      have D10:=hide (show Duo W qm b v c d b' c' d' r' ga bs #[.int .i64 0,.int .i64 At,.int .i64 Vv] Zt (setZ Zt) x by rw [hZt];exact D9.out)
      have G10:=hide (show ∀k,GZ k (Zt k) by rw [hZt];exact G9.out)
      have L10:=hide (show Zt 17 0≤32767*((i:Int)+1) by rw [hZt];exact L9.out)
      clear hZt D9 G9 L9
      obtain ⟨p,hp⟩:∃p,bits .and .i64 At 8191=p:=⟨_,rfl⟩
      have p0:0≤p∧p<8192:=by rw [←hp];rw [show bits .and .i64 At 8191=At%8192 from and_mask 13 (by decide) At];omega
      have a1:=D10.out.at 1 (x:=.int .i64 At) rfl
      go_wp2_with fail
      have LX:=hide D10.out.1.1.lt
      have LY:=hide D10.out.2.1.1.lt
      have LA:=hide (lt_of_block D10.out.2.2.2.1)
      have ka:=kept_cell a1 LA.out
      obtain ⟨mv,hmv⟩:∃mv,Zt 8 p.toNat=mv:=⟨_,rfl⟩
      have mv0:0≤mv∧mv<256:=by rw [←hmv];exact G10.out 8 p.toNat
      have HMV:=hide hmv
      clear hmv
      have k8:=kept_cell (show x.cell? ⟨b,283+p.toNat,none⟩=some (.int .u8 mv) from by rw [←HMV.out];exact D10.out.1.1.get 8 rfl p.toNat (by omega) (a:=283+p.toNat) (by rw [D10.out.1.isB.off 8 (a:=283) rfl]) (by omega)) LX.out
      have k1:=kept_cell (show x.cell? ⟨b,21,none⟩=some (.pointer (some ⟨v,0,none⟩)) from D10.out.1.1.get1 1 rfl (a:=21) (D10.out.1.isB.off 1 rfl) (by decide)) LX.out
      have y3:=kept_cell (show x.cell? ⟨b',3,none⟩=some (.slice (some ⟨r',0,none⟩) 8192 8192) from D10.out.2.1.1.get1 3 rfl (a:=3) (D10.out.2.1.2.2.2.1.off 3 rfl) (by decide)) LY.out
      have y6:=kept_cell (show x.cell? ⟨b',33,none⟩=some (.pointer (some ⟨c',0,none⟩)) from D10.out.2.1.1.get1 6 rfl (a:=33) (D10.out.2.1.2.2.2.1.off 6 rfl) (by decide)) LY.out
      have yr:=kept_cell (show x.cell? ⟨r',p.toNat,none⟩=some (.int .i64 mv) from by rw [←HMV.out];exact HasF.int D10.out.2.1.2.2.1 p.toNat (by omega)) (lt_of_block D10.out.2.1.2.2.1)
      have KV:=hide (fun (x:Kept x) (n:Int)=>word_is v _ _ _ _ _ _ _ (D10.out.1.next x.below).2.1 n (wordAt (Zt 18) n) rfl)
      have KR:=hide (fun (x:Kept x) (n:Int)=>rword_is c' d' _ _ _ _ _ _ _ (D10.out.2.1.next x.below).2.1 n (wordAt (Zt 18) n) rfl)
      clear a1
      haveI:=kept_some x
      refine wp_region_kept (by kernel_rfl) (by kernel_rfl) ?_
      try dsimp only [List.append_eq,List.cons_append,List.nil_append]
      repeat (go_big_quiet_step ((first
       |(go_at_call 13;exact kept_same (KV.out _ _))
       |(go_at_call 14;exact kept_same (KR.out _ _)))))
      refine wpQuiet_nil ?_
      rintro _ ⟨wk,rfl⟩
      have D11:=hide (D10.out.next wk.below)
      clear ka k8 k1 y3 y6 yr KV KR LX LY LA D10
      go_wp2_with fail
      go_roundw
      case rel=>exact ⟨i+1,Zt,by omega,by go_num,⟨D11.out.1,D11.out.2.1,D11.out.2.2.1,G10.out,D11.out.2.2.2.2⟩,by have:=L10.out;omega⟩
      case measure=>simp [intOf];omega
    by_cases k1:kk=1
    ·subst k1
     obtain ⟨Z1,hZ1⟩:∃Z1,wrZ Z At (Vv%256)=Z1:=⟨_,rfl⟩
     have KX:Hid (∀y,Duo W qm b v c d b' c' d' r' ga bs #[.int .i64 1,.int .i64 At,.int .i64 Vv] Z (setZ Z) y→Calls Tryz.prog 8 #[.pointer (some ⟨b,0,none⟩),.int .i64 At,.int .i64 Vv] y fun e y'=>e=Ending.returned (.tuple #[])∧Duo W qm b v c d b' c' d' r' ga bs #[.int .i64 1,.int .i64 At,.int .i64 Vv] Z1 (setZ Z) y'):=hide (fun y q0=>((sim_wr GK.out b v c d bs H320.out At Vv hZ1).2.2 y q0.1).mono fun e y' ⟨e1,p1,o1⟩=>⟨e1,q0.p AA.out p1 o1⟩)
     have KD:Hid (∀y,Duo W qm b v c d b' c' d' r' ga bs #[.int .i64 1,.int .i64 At,.int .i64 Vv] Z1 (setZ Z) y→Calls Tryz.prog 9 #[.pointer (some ⟨b',0,none⟩),.int .i64 At,.int .i64 Vv] y fun e y'=>e=Ending.returned (.tuple #[])∧Duo W qm b v c d b' c' d' r' ga bs #[.int .i64 1,.int .i64 At,.int .i64 Vv] Z1 (setZ Z1) y'):=hide (fun y q0=>(doc_wr GK.out q0.2.1 H320.out At Vv _ rfl).mono fun e y' ⟨e1,p1,o1⟩=>⟨e1,by rw [hZ1] at p1;exact q0.d AA.out HT.out p1 o1⟩)
     have G9:=hide (sim_wr GK.out b v c d bs H320.out At Vv hZ1).1
     have L9:=hide (show Z1 17 0≤32767*((i:Int)+1) by have:=(sim_wr GK.out b v c d bs H320.out At Vv hZ1).2.1;have:=HZ.out;omega)
     have m1:=D0.out.at 1 (x:=.int .i64 At) rfl
     have m2:=D0.out.at 2 (x:=.int .i64 Vv) rfl
     rw [HWA.out,←hga] at m1 m2
     clear hZ1
     go_wp2_with fail
     rw [←HWA.out]
     clear c0 c1 c2
     refine (KX.out _ D0.out).mono ?_
     rintro e w3 ⟨rfl,d3⟩
     have D3:=hide d3
     have m1:=d3.at 1 (x:=.int .i64 At) rfl
     have m2:=d3.at 2 (x:=.int .i64 Vv) rfl
     clear d3 D0 KX GK
     go_wp2_with fail
     refine (KD.out _ D3.out).mono ?_
     rintro e w4 ⟨rfl,d4⟩
     have D9:=hide d4
     clear d4 D3 KD m1 m2
     by_cases h9:(i:Int)%9=4
     ·set_option maxRecDepth 20000 in
      go_wp2_with fail
      refine (like_is D9.out.1 D9.out.2.1 NX.out.1 NX.out.2.1 NX.out.2.2.1 NX.out.2.2.2).mono ?_
      rintro e wl ⟨rfl,xl,ol⟩
      obtain ⟨Zt,hZt⟩:∃Zt,setZ Z1=Zt:=⟨_,rfl⟩
      have D10:=hide (show Duo W qm b v c d b' c' d' r' ga bs #[.int .i64 1,.int .i64 At,.int .i64 Vv] Zt (setZ Zt) wl by rw [←hZt,set_set];exact D9.out.p AA.out xl ol)
      have G10:=hide (show ∀k,GZ k (Zt k) by rw [←hZt];exact good_set G9.out)
      have L10:=hide (show Zt 17 0≤32767*((i:Int)+1) by rw [←hZt];show (0:Int)≤_;omega)
      clear hZt xl ol D9 G9 L9
      obtain ⟨p,hp⟩:∃p,bits .and .i64 At 8191=p:=⟨_,rfl⟩
      have p0:0≤p∧p<8192:=by rw [←hp];rw [show bits .and .i64 At 8191=At%8192 from and_mask 13 (by decide) At];omega
      have a1:=D10.out.at 1 (x:=.int .i64 At) rfl
      go_wp2_with fail
      have LX:=hide D10.out.1.1.lt
      have LY:=hide D10.out.2.1.1.lt
      have LA:=hide (lt_of_block D10.out.2.2.2.1)
      have ka:=kept_cell a1 LA.out
      obtain ⟨mv,hmv⟩:∃mv,Zt 8 p.toNat=mv:=⟨_,rfl⟩
      have mv0:0≤mv∧mv<256:=by rw [←hmv];exact G10.out 8 p.toNat
      have HMV:=hide hmv
      clear hmv
      have k8:=kept_cell (show wl.cell? ⟨b,283+p.toNat,none⟩=some (.int .u8 mv) from by rw [←HMV.out];exact D10.out.1.1.get 8 rfl p.toNat (by omega) (a:=283+p.toNat) (by rw [D10.out.1.isB.off 8 (a:=283) rfl]) (by omega)) LX.out
      have k1:=kept_cell (show wl.cell? ⟨b,21,none⟩=some (.pointer (some ⟨v,0,none⟩)) from D10.out.1.1.get1 1 rfl (a:=21) (D10.out.1.isB.off 1 rfl) (by decide)) LX.out
      have y3:=kept_cell (show wl.cell? ⟨b',3,none⟩=some (.slice (some ⟨r',0,none⟩) 8192 8192) from D10.out.2.1.1.get1 3 rfl (a:=3) (D10.out.2.1.2.2.2.1.off 3 rfl) (by decide)) LY.out
      have y6:=kept_cell (show wl.cell? ⟨b',33,none⟩=some (.pointer (some ⟨c',0,none⟩)) from D10.out.2.1.1.get1 6 rfl (a:=33) (D10.out.2.1.2.2.2.1.off 6 rfl) (by decide)) LY.out
      have yr:=kept_cell (show wl.cell? ⟨r',p.toNat,none⟩=some (.int .i64 mv) from by rw [←HMV.out];exact HasF.int D10.out.2.1.2.2.1 p.toNat (by omega)) (lt_of_block D10.out.2.1.2.2.1)
      have KV:=hide (fun (x:Kept wl) (n:Int)=>word_is v _ _ _ _ _ _ _ (D10.out.1.next x.below).2.1 n (wordAt (Zt 18) n) rfl)
      have KR:=hide (fun (x:Kept wl) (n:Int)=>rword_is c' d' _ _ _ _ _ _ _ (D10.out.2.1.next x.below).2.1 n (wordAt (Zt 18) n) rfl)
      clear a1
      haveI:=kept_some wl
      refine wp_region_kept (by kernel_rfl) (by kernel_rfl) ?_
      try dsimp only [List.append_eq,List.cons_append,List.nil_append]
      repeat (go_big_quiet_step ((first
       |(go_at_call 13;exact kept_same (KV.out _ _))
       |(go_at_call 14;exact kept_same (KR.out _ _)))))
      refine wpQuiet_nil ?_
      rintro _ ⟨wk,rfl⟩
      have D11:=hide (D10.out.next wk.below)
      clear ka k8 k1 y3 y6 yr KV KR LX LY LA D10
      go_wp2_with fail
      go_roundw
      case rel=>exact ⟨i+1,Zt,by omega,by go_num,⟨D11.out.1,D11.out.2.1,D11.out.2.2.1,G10.out,D11.out.2.2.2.2⟩,by have:=L10.out;omega⟩
      case measure=>simp [intOf];omega
     ·obtain ⟨Zt,hZt⟩:∃Zt,Zt=Z1:=⟨_,rfl⟩
      have D10:=hide (show Duo W qm b v c d b' c' d' r' ga bs #[.int .i64 1,.int .i64 At,.int .i64 Vv] Zt (setZ Zt) w4 by rw [hZt];exact D9.out)
      have G10:=hide (show ∀k,GZ k (Zt k) by rw [hZt];exact G9.out)
      have L10:=hide (show Zt 17 0≤32767*((i:Int)+1) by rw [hZt];exact L9.out)
      clear hZt D9 G9 L9
      obtain ⟨p,hp⟩:∃p,bits .and .i64 At 8191=p:=⟨_,rfl⟩
      have p0:0≤p∧p<8192:=by rw [←hp];rw [show bits .and .i64 At 8191=At%8192 from and_mask 13 (by decide) At];omega
      have a1:=D10.out.at 1 (x:=.int .i64 At) rfl
      go_wp2_with fail
      have LX:=hide D10.out.1.1.lt
      have LY:=hide D10.out.2.1.1.lt
      have LA:=hide (lt_of_block D10.out.2.2.2.1)
      have ka:=kept_cell a1 LA.out
      obtain ⟨mv,hmv⟩:∃mv,Zt 8 p.toNat=mv:=⟨_,rfl⟩
      have mv0:0≤mv∧mv<256:=by rw [←hmv];exact G10.out 8 p.toNat
      have HMV:=hide hmv
      clear hmv
      have k8:=kept_cell (show w4.cell? ⟨b,283+p.toNat,none⟩=some (.int .u8 mv) from by rw [←HMV.out];exact D10.out.1.1.get 8 rfl p.toNat (by omega) (a:=283+p.toNat) (by rw [D10.out.1.isB.off 8 (a:=283) rfl]) (by omega)) LX.out
      have k1:=kept_cell (show w4.cell? ⟨b,21,none⟩=some (.pointer (some ⟨v,0,none⟩)) from D10.out.1.1.get1 1 rfl (a:=21) (D10.out.1.isB.off 1 rfl) (by decide)) LX.out
      have y3:=kept_cell (show w4.cell? ⟨b',3,none⟩=some (.slice (some ⟨r',0,none⟩) 8192 8192) from D10.out.2.1.1.get1 3 rfl (a:=3) (D10.out.2.1.2.2.2.1.off 3 rfl) (by decide)) LY.out
      have y6:=kept_cell (show w4.cell? ⟨b',33,none⟩=some (.pointer (some ⟨c',0,none⟩)) from D10.out.2.1.1.get1 6 rfl (a:=33) (D10.out.2.1.2.2.2.1.off 6 rfl) (by decide)) LY.out
      have yr:=kept_cell (show w4.cell? ⟨r',p.toNat,none⟩=some (.int .i64 mv) from by rw [←HMV.out];exact HasF.int D10.out.2.1.2.2.1 p.toNat (by omega)) (lt_of_block D10.out.2.1.2.2.1)
      have KV:=hide (fun (x:Kept w4) (n:Int)=>word_is v _ _ _ _ _ _ _ (D10.out.1.next x.below).2.1 n (wordAt (Zt 18) n) rfl)
      have KR:=hide (fun (x:Kept w4) (n:Int)=>rword_is c' d' _ _ _ _ _ _ _ (D10.out.2.1.next x.below).2.1 n (wordAt (Zt 18) n) rfl)
      clear a1
      haveI:=kept_some w4
      refine wp_region_kept (by kernel_rfl) (by kernel_rfl) ?_
      try dsimp only [List.append_eq,List.cons_append,List.nil_append]
      repeat (go_big_quiet_step ((first
       |(go_at_call 13;exact kept_same (KV.out _ _))
       |(go_at_call 14;exact kept_same (KR.out _ _)))))
      refine wpQuiet_nil ?_
      rintro _ ⟨wk,rfl⟩
      have D11:=hide (D10.out.next wk.below)
      clear ka k8 k1 y3 y6 yr KV KR LX LY LA D10
      go_wp2_with fail
      go_roundw
      case rel=>exact ⟨i+1,Zt,by omega,by go_num,⟨D11.out.1,D11.out.2.1,D11.out.2.2.1,G10.out,D11.out.2.2.2.2⟩,by have:=L10.out;omega⟩
      case measure=>simp [intOf];omega
    by_cases k2:kk=2
    ·subst k2
     obtain ⟨n,hn⟩:∃n,bits .and .i64 Vv 32767=n:=⟨_,rfl⟩
     have n0:0≤n∧n≤32767:=by rw [←hn];rw [show bits .and .i64 Vv 32767=Vv%32768 from and_mask 15 (by decide) Vv];omega
     have z17:0≤Z 17 0∧Z 17 0≤32767*(i:Int):=⟨(GK.out 17).1.1,HZ.out⟩
     have s17:0≤Z 17 0+n∧Z 17 0+n≤8388608:=by omega
     obtain ⟨Z1,hZ1⟩:∃Z1,upZ Z 17 (oneV (Z 17 0+n))=Z1:=⟨_,rfl⟩
     have KD:Hid (∀y,Duo W qm b v c d b' c' d' r' ga bs #[.int .i64 2,.int .i64 At,.int .i64 Vv] Z1 (setZ Z) y→Calls Tryz.prog 10 #[.pointer (some ⟨b',0,none⟩),.int .i64 n] y fun e y'=>e=Ending.returned (.tuple #[])∧Duo W qm b v c d b' c' d' r' ga bs #[.int .i64 2,.int .i64 At,.int .i64 Vv] Z1 (setZ Z1) y'):=hide (fun y q0=>(d_tick q0.2.1 (good_of (good_set GK.out)) n n0.1 (by omega)).mono fun e y' ⟨e1,p1,o1⟩=>⟨e1,by rw [←set_tick GK.out n n0.1 s17.2,hZ1] at p1;exact q0.d AA.out HT.out p1 o1⟩)
     have G9:=hide (show ∀k,GZ k (Z1 k) by rw [←hZ1];exact good_up GK.out 17 _ ⟨s17,rfl⟩)
     have L9:=hide (show Z1 17 0≤32767*((i:Int)+1) by rw [←hZ1];show Z 17 0+n≤_;omega)
     go_wp2_with fail
     rw [←HWA.out]
     clear c0 c1 c2
     refine wp_region_state (ofList [.pointer (some ⟨b,0,none⟩),.pointer (some ⟨b,0,none⟩),.pointer (some ⟨b,0,none⟩),.pointer (some ⟨b,9262,none⟩),.int .i64 (Z 17 0),.pointer (some ⟨ga,2,none⟩),.int .i64 Vv,.int .i64 n,.int .i64 (Z 17 0+n),.pointer (some ⟨b,0,none⟩),.pointer (some ⟨b,9262,none⟩),undef]) (fun dd ww=>(stgs [Duo W qm b v c d b' c' d' r' ga bs #[.int .i64 2,.int .i64 At,.int .i64 Vv] Z (setZ Z),Duo W qm b v c d b' c' d' r' ga bs #[.int .i64 2,.int .i64 At,.int .i64 Vv] Z1 (setZ Z)]) (cntD [11] dd) ww) _ (fun vals=>by simp only [putAll,Act.put,List.setIfInBounds_toArray,List.set_cons_succ,List.set_cons_zero,Nat.reduceAdd];rfl) (by kernel_rfl) (by kernel_rfl) (by kernel_rfl) (fun dn hd=>stage_none (A:=(stgs [Duo W qm b v c d b' c' d' r' ga bs #[.int .i64 2,.int .i64 At,.int .i64 Vv] Z (setZ Z),Duo W qm b v c d b' c' d' r' ga bs #[.int .i64 2,.int .i64 At,.int .i64 Vv] Z1 (setZ Z)])) hd (D0.out.drew)) ?_ ?_
     ·refine stepsS_cons (fun vals dn x hi hc hk hs=>?_) (stepsS_cons (fun vals dn x hi hc hk hs=>?_) (stepsS_cons (fun vals dn x hi hc hk hs=>?_) (stepsS_cons (fun vals dn x hi hc hk hs=>?_) (stepsS_cons (fun vals dn x hi hc hk hs=>?_) (stepsS_cons (fun vals dn x hi hc hk hs=>?_) (stepsS_cons (fun vals dn x hi hc hk hs=>?_) (stepsS_cons (fun vals dn x hi hc hk hs=>?_) (stepsS_cons (fun vals dn x hi hc hk hs=>?_) (stepsS_cons (fun vals dn x hi hc hk hs=>?_) (stepsS_cons (fun vals dn x hi hc hk hs=>?_) (stepsS_cons (fun vals dn x hi hc hk hs=>?_) stepsS_nil)))))))))))
      ·set_option maxRecDepth 20000 in
       go_wp2_with fail
       exact postS_mk _ rfl rfl (stage_keep (A:=(stgs [Duo W qm b v c d b' c' d' r' ga bs #[.int .i64 2,.int .i64 At,.int .i64 Vv] Z (setZ Z),Duo W qm b v c d b' c' d' r' ga bs #[.int .i64 2,.int .i64 At,.int .i64 Vv] Z1 (setZ Z)])) (ps:=[11]) (i:=0) rfl hs)
      ·set_option maxRecDepth 20000 in
       go_wp2_with fail
       exact postS_mk _ rfl rfl (stage_keep (A:=(stgs [Duo W qm b v c d b' c' d' r' ga bs #[.int .i64 2,.int .i64 At,.int .i64 Vv] Z (setZ Z),Duo W qm b v c d b' c' d' r' ga bs #[.int .i64 2,.int .i64 At,.int .i64 Vv] Z1 (setZ Z)])) (ps:=[11]) (i:=1) rfl hs)
      ·obtain ⟨⟨(h1:vals 1=.pointer (some ⟨b,0,none⟩)),t1⟩,_⟩:=hk
       simp only [h1]
       clear h1
       go_wp2_with fail
       exact postS_mk _ rfl rfl (stage_keep (A:=(stgs [Duo W qm b v c d b' c' d' r' ga bs #[.int .i64 2,.int .i64 At,.int .i64 Vv] Z (setZ Z),Duo W qm b v c d b' c' d' r' ga bs #[.int .i64 2,.int .i64 At,.int .i64 Vv] Z1 (setZ Z)])) (ps:=[11]) (i:=2) rfl hs)
      ·obtain ⟨⟨(h2:vals 2=.pointer (some ⟨b,0,none⟩)),t2⟩,_⟩:=hk
       simp only [h2]
       clear h2
       go_wp2_with fail
       exact postS_mk _ rfl rfl (stage_keep (A:=(stgs [Duo W qm b v c d b' c' d' r' ga bs #[.int .i64 2,.int .i64 At,.int .i64 Vv] Z (setZ Z),Duo W qm b v c d b' c' d' r' ga bs #[.int .i64 2,.int .i64 At,.int .i64 Vv] Z1 (setZ Z)])) (ps:=[11]) (i:=3) rfl hs)
      ·obtain ⟨⟨(h3:vals 3=.pointer (some ⟨b,9262,none⟩)),t3⟩,_⟩:=hk
       simp only [h3]
       clear h3
       have d11:=not_yet hc hi 11 60 (by kernel_rfl)
       have hn:cntD [11] dn=0:=by show (if dn 11=true then 1 else 0)+0=0;rw [d11];rfl
       have hs1:=stage_at (A:=(stgs [Duo W qm b v c d b' c' d' r' ga bs #[.int .i64 2,.int .i64 At,.int .i64 Vv] Z (setZ Z),Duo W qm b v c d b' c' d' r' ga bs #[.int .i64 2,.int .i64 At,.int .i64 Vv] Z1 (setZ Z)])) hn hs
       have q:=(fun h:Duo W qm b v c d b' c' d' r' ga bs #[.int .i64 2,.int .i64 At,.int .i64 Vv] Z (setZ Z) x=>(p_lag h.1 0).2.2.1) hs1
       go_wp2_with fail
       exact postS_mk _ rfl rfl (stage_keep (A:=(stgs [Duo W qm b v c d b' c' d' r' ga bs #[.int .i64 2,.int .i64 At,.int .i64 Vv] Z (setZ Z),Duo W qm b v c d b' c' d' r' ga bs #[.int .i64 2,.int .i64 At,.int .i64 Vv] Z1 (setZ Z)])) (ps:=[11]) (i:=4) rfl hs)
      ·set_option maxRecDepth 20000 in
       go_wp2_with fail
       exact postS_mk _ rfl rfl (stage_keep (A:=(stgs [Duo W qm b v c d b' c' d' r' ga bs #[.int .i64 2,.int .i64 At,.int .i64 Vv] Z (setZ Z),Duo W qm b v c d b' c' d' r' ga bs #[.int .i64 2,.int .i64 At,.int .i64 Vv] Z1 (setZ Z)])) (ps:=[11]) (i:=5) rfl hs)
      ·obtain ⟨⟨(h5:vals 5=.pointer (some ⟨ga,2,none⟩)),t5⟩,_⟩:=hk
       simp only [h5]
       clear h5
       have d11:=not_yet hc hi 11 60 (by kernel_rfl)
       have hn:cntD [11] dn=0:=by show (if dn 11=true then 1 else 0)+0=0;rw [d11];rfl
       have hs1:=stage_at (A:=(stgs [Duo W qm b v c d b' c' d' r' ga bs #[.int .i64 2,.int .i64 At,.int .i64 Vv] Z (setZ Z),Duo W qm b v c d b' c' d' r' ga bs #[.int .i64 2,.int .i64 At,.int .i64 Vv] Z1 (setZ Z)])) hn hs
       have q:=(fun h:Duo W qm b v c d b' c' d' r' ga bs #[.int .i64 2,.int .i64 At,.int .i64 Vv] Z (setZ Z) x=>h.at 2 (x:=.int .i64 Vv) rfl) hs1
       go_wp2_with fail
       exact postS_mk _ rfl rfl (stage_keep (A:=(stgs [Duo W qm b v c d b' c' d' r' ga bs #[.int .i64 2,.int .i64 At,.int .i64 Vv] Z (setZ Z),Duo W qm b v c d b' c' d' r' ga bs #[.int .i64 2,.int .i64 At,.int .i64 Vv] Z1 (setZ Z)])) (ps:=[11]) (i:=6) rfl hs)
      ·obtain ⟨⟨(h6:vals 6=.int .i64 Vv),t6⟩,_⟩:=hk
       simp only [h6]
       clear h6
       go_wp2_with fail
       exact postS_mk _ rfl rfl (stage_keep (A:=(stgs [Duo W qm b v c d b' c' d' r' ga bs #[.int .i64 2,.int .i64 At,.int .i64 Vv] Z (setZ Z),Duo W qm b v c d b' c' d' r' ga bs #[.int .i64 2,.int .i64 At,.int .i64 Vv] Z1 (setZ Z)])) (ps:=[11]) (i:=7) rfl hs)
      ·obtain ⟨⟨(h4:vals 4=.int .i64 (Z 17 0)),t4⟩,⟨(h7:vals 7=.int .i64 n),t7⟩,_⟩:=hk
       simp only [h4,h7]
       clear h4 h7
       go_wp2_with fail
       exact postS_mk _ rfl rfl (stage_keep (A:=(stgs [Duo W qm b v c d b' c' d' r' ga bs #[.int .i64 2,.int .i64 At,.int .i64 Vv] Z (setZ Z),Duo W qm b v c d b' c' d' r' ga bs #[.int .i64 2,.int .i64 At,.int .i64 Vv] Z1 (setZ Z)])) (ps:=[11]) (i:=8) rfl hs)
      ·obtain ⟨⟨(h0:vals 0=.pointer (some ⟨b,0,none⟩)),t0⟩,_,⟨(h1:vals 1=.pointer (some ⟨b,0,none⟩)),t1⟩,⟨(h2:vals 2=.pointer (some ⟨b,0,none⟩)),t2⟩,⟨(h3:vals 3=.pointer (some ⟨b,9262,none⟩)),t3⟩,⟨(h4:vals 4=.int .i64 (Z 17 0)),t4⟩,⟨(h5:vals 5=.pointer (some ⟨ga,2,none⟩)),t5⟩,⟨(h6:vals 6=.int .i64 Vv),t6⟩,⟨(h7:vals 7=.int .i64 n),t7⟩,⟨(h8:vals 8=.int .i64 (Z 17 0+n)),t8⟩,_⟩:=hk
       simp only [h0]
       clear h0 h1 h2 h3 h4 h5 h6 h7 h8
       go_wp2_with fail
       exact postS_mk _ rfl rfl (stage_keep (A:=(stgs [Duo W qm b v c d b' c' d' r' ga bs #[.int .i64 2,.int .i64 At,.int .i64 Vv] Z (setZ Z),Duo W qm b v c d b' c' d' r' ga bs #[.int .i64 2,.int .i64 At,.int .i64 Vv] Z1 (setZ Z)])) (ps:=[11]) (i:=9) rfl hs)
      ·obtain ⟨⟨(h9:vals 9=.pointer (some ⟨b,0,none⟩)),t9⟩,⟨(h0:vals 0=.pointer (some ⟨b,0,none⟩)),t0⟩,⟨(h1:vals 1=.pointer (some ⟨b,0,none⟩)),t1⟩,⟨(h2:vals 2=.pointer (some ⟨b,0,none⟩)),t2⟩,⟨(h3:vals 3=.pointer (some ⟨b,9262,none⟩)),t3⟩,⟨(h4:vals 4=.int .i64 (Z 17 0)),t4⟩,⟨(h5:vals 5=.pointer (some ⟨ga,2,none⟩)),t5⟩,⟨(h6:vals 6=.int .i64 Vv),t6⟩,⟨(h7:vals 7=.int .i64 n),t7⟩,⟨(h8:vals 8=.int .i64 (Z 17 0+n)),t8⟩,_⟩:=hk
       simp only [h9]
       clear h9 h0 h1 h2 h3 h4 h5 h6 h7 h8
       go_wp2_with fail
       exact postS_mk _ rfl rfl (stage_keep (A:=(stgs [Duo W qm b v c d b' c' d' r' ga bs #[.int .i64 2,.int .i64 At,.int .i64 Vv] Z (setZ Z),Duo W qm b v c d b' c' d' r' ga bs #[.int .i64 2,.int .i64 At,.int .i64 Vv] Z1 (setZ Z)])) (ps:=[11]) (i:=10) rfl hs)
      ·obtain ⟨⟨(h10:vals 10=.pointer (some ⟨b,9262,none⟩)),t10⟩,⟨(h8:vals 8=.int .i64 (Z 17 0+n)),t8⟩,⟨(h0:vals 0=.pointer (some ⟨b,0,none⟩)),t0⟩,⟨(h1:vals 1=.pointer (some ⟨b,0,none⟩)),t1⟩,⟨(h2:vals 2=.pointer (some ⟨b,0,none⟩)),t2⟩,⟨(h3:vals 3=.pointer (some ⟨b,9262,none⟩)),t3⟩,⟨(h4:vals 4=.int .i64 (Z 17 0)),t4⟩,⟨(h5:vals 5=.pointer (some ⟨ga,2,none⟩)),t5⟩,⟨(h6:vals 6=.int .i64 Vv),t6⟩,⟨(h7:vals 7=.int .i64 n),t7⟩,_,_⟩:=hk
       simp only [h10,h8]
       clear h10 h8 h0 h1 h2 h3 h4 h5 h6 h7
       have d11:=hi
       have hn:cntD [11] dn=0:=by show (if dn 11=true then 1 else 0)+0=0;rw [d11];rfl
       have hs1:=stage_at (A:=(stgs [Duo W qm b v c d b' c' d' r' ga bs #[.int .i64 2,.int .i64 At,.int .i64 Vv] Z (setZ Z),Duo W qm b v c d b' c' d' r' ga bs #[.int .i64 2,.int .i64 At,.int .i64 Vv] Z1 (setZ Z)])) hn hs
       have hn2:cntD [11] (updD dn 11)=1:=by show (if updD dn 11 11=true then 1 else 0)+0=1;rw [updD_same];rfl
       have HN2:=hide hn2
       clear hn hn2
       have q:=(fun h:Duo W qm b v c d b' c' d' r' ga bs #[.int .i64 2,.int .i64 At,.int .i64 Vv] Z (setZ Z) x=>(p_lag h.1 0).2.2.1) hs1
       have z:=(fun h:Duo W qm b v c d b' c' d' r' ga bs #[.int .i64 2,.int .i64 At,.int .i64 Vv] Z (setZ Z) x=>(p_lag h.1 0).2.2.2) hs1
       have H2:=hide ((fun h:Duo W qm b v c d b' c' d' r' ga bs #[.int .i64 2,.int .i64 At,.int .i64 Vv] Z (setZ Z) x=>show Duo W qm b v c d b' c' d' r' ga bs #[.int .i64 2,.int .i64 At,.int .i64 Vv] Z1 (setZ Z) _ by rw [←hZ1];exact h.p AA.out (p_lag h.1 (Z 17 0+n)).1 (p_lag h.1 (Z 17 0+n)).2.1) hs1)
       clear hs hs1
       go_wp2_with fail
       exact postS_mk _ rfl rfl (stage_of (A:=(stgs [Duo W qm b v c d b' c' d' r' ga bs #[.int .i64 2,.int .i64 At,.int .i64 Vv] Z (setZ Z),Duo W qm b v c d b' c' d' r' ga bs #[.int .i64 2,.int .i64 At,.int .i64 Vv] Z1 (setZ Z)])) HN2.out H2.out)
     rintro vals dn x hall hs hv
     clear hv
     have hn:cntD [11] dn=1:=by show (if dn 11=true then 1 else 0)+0=1;rw [hall 11 (by decide)];rfl
     have hs:=stage_at (A:=(stgs [Duo W qm b v c d b' c' d' r' ga bs #[.int .i64 2,.int .i64 At,.int .i64 Vv] Z (setZ Z),Duo W qm b v c d b' c' d' r' ga bs #[.int .i64 2,.int .i64 At,.int .i64 Vv] Z1 (setZ Z)])) hn hs
     clear hn hall
     have D3:=hide (show Duo W qm b v c d b' c' d' r' ga bs #[.int .i64 2,.int .i64 At,.int .i64 Vv] Z1 (setZ Z) x from hs)
     have m2:=D3.out.at 2 (x:=.int .i64 Vv) rfl
     clear hs D0 GK hZ1
     go_wp2_with fail
     refine (KD.out _ D3.out).mono ?_
     rintro e w4 ⟨rfl,d4⟩
     have D9:=hide d4
     clear d4 D3 KD m2 n0 z17 s17 hn
     by_cases h9:(i:Int)%9=4
     ·set_option maxRecDepth 20000 in
      go_wp2_with fail
      refine (like_is D9.out.1 D9.out.2.1 NX.out.1 NX.out.2.1 NX.out.2.2.1 NX.out.2.2.2).mono ?_
      rintro e wl ⟨rfl,xl,ol⟩
      obtain ⟨Zt,hZt⟩:∃Zt,setZ Z1=Zt:=⟨_,rfl⟩
      have D10:=hide (show Duo W qm b v c d b' c' d' r' ga bs #[.int .i64 2,.int .i64 At,.int .i64 Vv] Zt (setZ Zt) wl by rw [←hZt,set_set];exact D9.out.p AA.out xl ol)
      have G10:=hide (show ∀k,GZ k (Zt k) by rw [←hZt];exact good_set G9.out)
      have L10:=hide (show Zt 17 0≤32767*((i:Int)+1) by rw [←hZt];show (0:Int)≤_;omega)
      clear hZt xl ol D9 G9 L9
      obtain ⟨p,hp⟩:∃p,bits .and .i64 At 8191=p:=⟨_,rfl⟩
      have p0:0≤p∧p<8192:=by rw [←hp];rw [show bits .and .i64 At 8191=At%8192 from and_mask 13 (by decide) At];omega
      have a1:=D10.out.at 1 (x:=.int .i64 At) rfl
      go_wp2_with fail
      have LX:=hide D10.out.1.1.lt
      have LY:=hide D10.out.2.1.1.lt
      have LA:=hide (lt_of_block D10.out.2.2.2.1)
      have ka:=kept_cell a1 LA.out
      obtain ⟨mv,hmv⟩:∃mv,Zt 8 p.toNat=mv:=⟨_,rfl⟩
      have mv0:0≤mv∧mv<256:=by rw [←hmv];exact G10.out 8 p.toNat
      have HMV:=hide hmv
      clear hmv
      have k8:=kept_cell (show wl.cell? ⟨b,283+p.toNat,none⟩=some (.int .u8 mv) from by rw [←HMV.out];exact D10.out.1.1.get 8 rfl p.toNat (by omega) (a:=283+p.toNat) (by rw [D10.out.1.isB.off 8 (a:=283) rfl]) (by omega)) LX.out
      have k1:=kept_cell (show wl.cell? ⟨b,21,none⟩=some (.pointer (some ⟨v,0,none⟩)) from D10.out.1.1.get1 1 rfl (a:=21) (D10.out.1.isB.off 1 rfl) (by decide)) LX.out
      have y3:=kept_cell (show wl.cell? ⟨b',3,none⟩=some (.slice (some ⟨r',0,none⟩) 8192 8192) from D10.out.2.1.1.get1 3 rfl (a:=3) (D10.out.2.1.2.2.2.1.off 3 rfl) (by decide)) LY.out
      have y6:=kept_cell (show wl.cell? ⟨b',33,none⟩=some (.pointer (some ⟨c',0,none⟩)) from D10.out.2.1.1.get1 6 rfl (a:=33) (D10.out.2.1.2.2.2.1.off 6 rfl) (by decide)) LY.out
      have yr:=kept_cell (show wl.cell? ⟨r',p.toNat,none⟩=some (.int .i64 mv) from by rw [←HMV.out];exact HasF.int D10.out.2.1.2.2.1 p.toNat (by omega)) (lt_of_block D10.out.2.1.2.2.1)
      have KV:=hide (fun (x:Kept wl) (n:Int)=>word_is v _ _ _ _ _ _ _ (D10.out.1.next x.below).2.1 n (wordAt (Zt 18) n) rfl)
      have KR:=hide (fun (x:Kept wl) (n:Int)=>rword_is c' d' _ _ _ _ _ _ _ (D10.out.2.1.next x.below).2.1 n (wordAt (Zt 18) n) rfl)
      clear a1
      haveI:=kept_some wl
      refine wp_region_kept (by kernel_rfl) (by kernel_rfl) ?_
      try dsimp only [List.append_eq,List.cons_append,List.nil_append]
      repeat (go_big_quiet_step ((first
       |(go_at_call 13;exact kept_same (KV.out _ _))
       |(go_at_call 14;exact kept_same (KR.out _ _)))))
      refine wpQuiet_nil ?_
      rintro _ ⟨wk,rfl⟩
      have D11:=hide (D10.out.next wk.below)
      clear ka k8 k1 y3 y6 yr KV KR LX LY LA D10
      go_wp2_with fail
      go_roundw
      case rel=>exact ⟨i+1,Zt,by omega,by go_num,⟨D11.out.1,D11.out.2.1,D11.out.2.2.1,G10.out,D11.out.2.2.2.2⟩,by have:=L10.out;omega⟩
      case measure=>simp [intOf];omega
     ·obtain ⟨Zt,hZt⟩:∃Zt,Zt=Z1:=⟨_,rfl⟩
      have D10:=hide (show Duo W qm b v c d b' c' d' r' ga bs #[.int .i64 2,.int .i64 At,.int .i64 Vv] Zt (setZ Zt) w4 by rw [hZt];exact D9.out)
      have G10:=hide (show ∀k,GZ k (Zt k) by rw [hZt];exact G9.out)
      have L10:=hide (show Zt 17 0≤32767*((i:Int)+1) by rw [hZt];exact L9.out)
      clear hZt D9 G9 L9
      obtain ⟨p,hp⟩:∃p,bits .and .i64 At 8191=p:=⟨_,rfl⟩
      have p0:0≤p∧p<8192:=by rw [←hp];rw [show bits .and .i64 At 8191=At%8192 from and_mask 13 (by decide) At];omega
      have a1:=D10.out.at 1 (x:=.int .i64 At) rfl
      go_wp2_with fail
      have LX:=hide D10.out.1.1.lt
      have LY:=hide D10.out.2.1.1.lt
      have LA:=hide (lt_of_block D10.out.2.2.2.1)
      have ka:=kept_cell a1 LA.out
      obtain ⟨mv,hmv⟩:∃mv,Zt 8 p.toNat=mv:=⟨_,rfl⟩
      have mv0:0≤mv∧mv<256:=by rw [←hmv];exact G10.out 8 p.toNat
      have HMV:=hide hmv
      clear hmv
      have k8:=kept_cell (show w4.cell? ⟨b,283+p.toNat,none⟩=some (.int .u8 mv) from by rw [←HMV.out];exact D10.out.1.1.get 8 rfl p.toNat (by omega) (a:=283+p.toNat) (by rw [D10.out.1.isB.off 8 (a:=283) rfl]) (by omega)) LX.out
      have k1:=kept_cell (show w4.cell? ⟨b,21,none⟩=some (.pointer (some ⟨v,0,none⟩)) from D10.out.1.1.get1 1 rfl (a:=21) (D10.out.1.isB.off 1 rfl) (by decide)) LX.out
      have y3:=kept_cell (show w4.cell? ⟨b',3,none⟩=some (.slice (some ⟨r',0,none⟩) 8192 8192) from D10.out.2.1.1.get1 3 rfl (a:=3) (D10.out.2.1.2.2.2.1.off 3 rfl) (by decide)) LY.out
      have y6:=kept_cell (show w4.cell? ⟨b',33,none⟩=some (.pointer (some ⟨c',0,none⟩)) from D10.out.2.1.1.get1 6 rfl (a:=33) (D10.out.2.1.2.2.2.1.off 6 rfl) (by decide)) LY.out
      have yr:=kept_cell (show w4.cell? ⟨r',p.toNat,none⟩=some (.int .i64 mv) from by rw [←HMV.out];exact HasF.int D10.out.2.1.2.2.1 p.toNat (by omega)) (lt_of_block D10.out.2.1.2.2.1)
      have KV:=hide (fun (x:Kept w4) (n:Int)=>word_is v _ _ _ _ _ _ _ (D10.out.1.next x.below).2.1 n (wordAt (Zt 18) n) rfl)
      have KR:=hide (fun (x:Kept w4) (n:Int)=>rword_is c' d' _ _ _ _ _ _ _ (D10.out.2.1.next x.below).2.1 n (wordAt (Zt 18) n) rfl)
      clear a1
      haveI:=kept_some w4
      refine wp_region_kept (by kernel_rfl) (by kernel_rfl) ?_
      try dsimp only [List.append_eq,List.cons_append,List.nil_append]
      repeat (go_big_quiet_step ((first
       |(go_at_call 13;exact kept_same (KV.out _ _))
       |(go_at_call 14;exact kept_same (KR.out _ _)))))
      refine wpQuiet_nil ?_
      rintro _ ⟨wk,rfl⟩
      have D11:=hide (D10.out.next wk.below)
      clear ka k8 k1 y3 y6 yr KV KR LX LY LA D10
      go_wp2_with fail
      go_roundw
      case rel=>exact ⟨i+1,Zt,by omega,by go_num,⟨D11.out.1,D11.out.2.1,D11.out.2.2.1,G10.out,D11.out.2.2.2.2⟩,by have:=L10.out;omega⟩
      case measure=>simp [intOf];omega
    by_cases k3:kk=3
    ·subst k3
     obtain ⟨u6,hu6⟩:∃u,bits .and .i64 At 63=u:=⟨_,rfl⟩
     obtain ⟨s6,hs6⟩:∃s,Int.tmod u6 6=s:=⟨_,rfl⟩
     have q6:=six_in At
     rw [hu6,hs6] at q6
     have q7:s6=0∨s6=1∨s6=2∨s6=3∨s6=4∨s6=5:=by omega
     obtain ⟨nb,hnb,hnb2⟩:=shift_in s6 q7
     have s60:0≤s6∧s6<6:=by omega
     obtain ⟨may,hmay⟩:∃may:Bool,(bits .and .i64 Vv 1==1)=may:=⟨_,rfl⟩
     obtain ⟨Z1,hZ1⟩:∃Z1,tellZ Z nb may=Z1:=⟨_,rfl⟩
     have KX:Hid (∀y,Duo W qm b v c d b' c' d' r' ga bs #[.int .i64 3,.int .i64 At,.int .i64 Vv] Z (setZ Z) y→Calls Tryz.prog 11 #[.pointer (some ⟨b,0,none⟩),.int .i64 nb,.bool may] y fun e y'=>e=Ending.returned (.tuple #[])∧Duo W qm b v c d b' c' d' r' ga bs #[.int .i64 3,.int .i64 At,.int .i64 Vv] Z1 (setZ Z) y'):=hide (fun y q0=>(p_tell q0.1 nb may).mono fun e y' ⟨e1,p1,o1⟩=>⟨e1,by rw [hZ1] at p1;exact q0.p AA.out p1 o1⟩)
     have KD:Hid (∀y,Duo W qm b v c d b' c' d' r' ga bs #[.int .i64 3,.int .i64 At,.int .i64 Vv] Z1 (setZ Z) y→Calls Tryz.prog 12 #[.pointer (some ⟨b',0,none⟩),.int .i64 nb,.bool may] y fun e y'=>e=Ending.returned (.tuple #[])∧Duo W qm b v c d b' c' d' r' ga bs #[.int .i64 3,.int .i64 At,.int .i64 Vv] Z1 (setZ Z1) y'):=hide (fun y q0=>(d_tell q0.2.1 (good_of (good_set GK.out)) nb hnb2 may).mono fun e y' ⟨e1,p1,o1⟩=>⟨e1,by rw [←set_tell GK.out,hZ1] at p1;exact q0.d AA.out HT.out p1 o1⟩)
     have G9:=hide (show ∀k,GZ k (Z1 k) by rw [←hZ1];exact good_tell GK.out nb hnb2 may)
     have L9:=hide (show Z1 17 0≤32767*((i:Int)+1) by rw [←hZ1];have:=HZ.out;show Z 17 0≤_;omega)
     have m1:=D0.out.at 1 (x:=.int .i64 At) rfl
     have m2:=D0.out.at 2 (x:=.int .i64 Vv) rfl
     rw [HWA.out,←hga] at m1 m2
     clear hZ1 hnb2 q6 q7
     go_wp2_with fail
     rw [←HWA.out]
     clear c0 c1 c2
     refine (KX.out _ D0.out).mono ?_
     rintro e w3 ⟨rfl,d3⟩
     have D3:=hide d3
     have m2:=d3.at 2 (x:=.int .i64 Vv) rfl
     clear d3 D0 KX GK
     go_wp2_with fail
     refine (KD.out _ D3.out).mono ?_
     rintro e w4 ⟨rfl,d4⟩
     have D9:=hide d4
     clear d4 D3 KD m1 m2 hmay hnb hs6 hu6 s60
     by_cases h9:(i:Int)%9=4
     ·set_option maxRecDepth 20000 in
      go_wp2_with fail
      refine (like_is D9.out.1 D9.out.2.1 NX.out.1 NX.out.2.1 NX.out.2.2.1 NX.out.2.2.2).mono ?_
      rintro e wl ⟨rfl,xl,ol⟩
      obtain ⟨Zt,hZt⟩:∃Zt,setZ Z1=Zt:=⟨_,rfl⟩
      have D10:=hide (show Duo W qm b v c d b' c' d' r' ga bs #[.int .i64 3,.int .i64 At,.int .i64 Vv] Zt (setZ Zt) wl by rw [←hZt,set_set];exact D9.out.p AA.out xl ol)
      have G10:=hide (show ∀k,GZ k (Zt k) by rw [←hZt];exact good_set G9.out)
      have L10:=hide (show Zt 17 0≤32767*((i:Int)+1) by rw [←hZt];show (0:Int)≤_;omega)
      clear hZt xl ol D9 G9 L9
      obtain ⟨p,hp⟩:∃p,bits .and .i64 At 8191=p:=⟨_,rfl⟩
      have p0:0≤p∧p<8192:=by rw [←hp];rw [show bits .and .i64 At 8191=At%8192 from and_mask 13 (by decide) At];omega
      have a1:=D10.out.at 1 (x:=.int .i64 At) rfl
      go_wp2_with fail
      have LX:=hide D10.out.1.1.lt
      have LY:=hide D10.out.2.1.1.lt
      have LA:=hide (lt_of_block D10.out.2.2.2.1)
      have ka:=kept_cell a1 LA.out
      obtain ⟨mv,hmv⟩:∃mv,Zt 8 p.toNat=mv:=⟨_,rfl⟩
      have mv0:0≤mv∧mv<256:=by rw [←hmv];exact G10.out 8 p.toNat
      have HMV:=hide hmv
      clear hmv
      have k8:=kept_cell (show wl.cell? ⟨b,283+p.toNat,none⟩=some (.int .u8 mv) from by rw [←HMV.out];exact D10.out.1.1.get 8 rfl p.toNat (by omega) (a:=283+p.toNat) (by rw [D10.out.1.isB.off 8 (a:=283) rfl]) (by omega)) LX.out
      have k1:=kept_cell (show wl.cell? ⟨b,21,none⟩=some (.pointer (some ⟨v,0,none⟩)) from D10.out.1.1.get1 1 rfl (a:=21) (D10.out.1.isB.off 1 rfl) (by decide)) LX.out
      have y3:=kept_cell (show wl.cell? ⟨b',3,none⟩=some (.slice (some ⟨r',0,none⟩) 8192 8192) from D10.out.2.1.1.get1 3 rfl (a:=3) (D10.out.2.1.2.2.2.1.off 3 rfl) (by decide)) LY.out
      have y6:=kept_cell (show wl.cell? ⟨b',33,none⟩=some (.pointer (some ⟨c',0,none⟩)) from D10.out.2.1.1.get1 6 rfl (a:=33) (D10.out.2.1.2.2.2.1.off 6 rfl) (by decide)) LY.out
      have yr:=kept_cell (show wl.cell? ⟨r',p.toNat,none⟩=some (.int .i64 mv) from by rw [←HMV.out];exact HasF.int D10.out.2.1.2.2.1 p.toNat (by omega)) (lt_of_block D10.out.2.1.2.2.1)
      have KV:=hide (fun (x:Kept wl) (n:Int)=>word_is v _ _ _ _ _ _ _ (D10.out.1.next x.below).2.1 n (wordAt (Zt 18) n) rfl)
      have KR:=hide (fun (x:Kept wl) (n:Int)=>rword_is c' d' _ _ _ _ _ _ _ (D10.out.2.1.next x.below).2.1 n (wordAt (Zt 18) n) rfl)
      clear a1
      haveI:=kept_some wl
      refine wp_region_kept (by kernel_rfl) (by kernel_rfl) ?_
      try dsimp only [List.append_eq,List.cons_append,List.nil_append]
      repeat (go_big_quiet_step ((first
       |(go_at_call 13;exact kept_same (KV.out _ _))
       |(go_at_call 14;exact kept_same (KR.out _ _)))))
      refine wpQuiet_nil ?_
      rintro _ ⟨wk,rfl⟩
      have D11:=hide (D10.out.next wk.below)
      clear ka k8 k1 y3 y6 yr KV KR LX LY LA D10
      go_wp2_with fail
      go_roundw
      case rel=>exact ⟨i+1,Zt,by omega,by go_num,⟨D11.out.1,D11.out.2.1,D11.out.2.2.1,G10.out,D11.out.2.2.2.2⟩,by have:=L10.out;omega⟩
      case measure=>simp [intOf];omega
     ·obtain ⟨Zt,hZt⟩:∃Zt,Zt=Z1:=⟨_,rfl⟩
      have D10:=hide (show Duo W qm b v c d b' c' d' r' ga bs #[.int .i64 3,.int .i64 At,.int .i64 Vv] Zt (setZ Zt) w4 by rw [hZt];exact D9.out)
      have G10:=hide (show ∀k,GZ k (Zt k) by rw [hZt];exact G9.out)
      have L10:=hide (show Zt 17 0≤32767*((i:Int)+1) by rw [hZt];exact L9.out)
      clear hZt D9 G9 L9
      obtain ⟨p,hp⟩:∃p,bits .and .i64 At 8191=p:=⟨_,rfl⟩
      have p0:0≤p∧p<8192:=by rw [←hp];rw [show bits .and .i64 At 8191=At%8192 from and_mask 13 (by decide) At];omega
      have a1:=D10.out.at 1 (x:=.int .i64 At) rfl
      go_wp2_with fail
      have LX:=hide D10.out.1.1.lt
      have LY:=hide D10.out.2.1.1.lt
      have LA:=hide (lt_of_block D10.out.2.2.2.1)
      have ka:=kept_cell a1 LA.out
      obtain ⟨mv,hmv⟩:∃mv,Zt 8 p.toNat=mv:=⟨_,rfl⟩
      have mv0:0≤mv∧mv<256:=by rw [←hmv];exact G10.out 8 p.toNat
      have HMV:=hide hmv
      clear hmv
      have k8:=kept_cell (show w4.cell? ⟨b,283+p.toNat,none⟩=some (.int .u8 mv) from by rw [←HMV.out];exact D10.out.1.1.get 8 rfl p.toNat (by omega) (a:=283+p.toNat) (by rw [D10.out.1.isB.off 8 (a:=283) rfl]) (by omega)) LX.out
      have k1:=kept_cell (show w4.cell? ⟨b,21,none⟩=some (.pointer (some ⟨v,0,none⟩)) from D10.out.1.1.get1 1 rfl (a:=21) (D10.out.1.isB.off 1 rfl) (by decide)) LX.out
      have y3:=kept_cell (show w4.cell? ⟨b',3,none⟩=some (.slice (some ⟨r',0,none⟩) 8192 8192) from D10.out.2.1.1.get1 3 rfl (a:=3) (D10.out.2.1.2.2.2.1.off 3 rfl) (by decide)) LY.out
      have y6:=kept_cell (show w4.cell? ⟨b',33,none⟩=some (.pointer (some ⟨c',0,none⟩)) from D10.out.2.1.1.get1 6 rfl (a:=33) (D10.out.2.1.2.2.2.1.off 6 rfl) (by decide)) LY.out
      have yr:=kept_cell (show w4.cell? ⟨r',p.toNat,none⟩=some (.int .i64 mv) from by rw [←HMV.out];exact HasF.int D10.out.2.1.2.2.1 p.toNat (by omega)) (lt_of_block D10.out.2.1.2.2.1)
      have KV:=hide (fun (x:Kept w4) (n:Int)=>word_is v _ _ _ _ _ _ _ (D10.out.1.next x.below).2.1 n (wordAt (Zt 18) n) rfl)
      have KR:=hide (fun (x:Kept w4) (n:Int)=>rword_is c' d' _ _ _ _ _ _ _ (D10.out.2.1.next x.below).2.1 n (wordAt (Zt 18) n) rfl)
      clear a1
      haveI:=kept_some w4
      refine wp_region_kept (by kernel_rfl) (by kernel_rfl) ?_
      try dsimp only [List.append_eq,List.cons_append,List.nil_append]
      repeat (go_big_quiet_step ((first
       |(go_at_call 13;exact kept_same (KV.out _ _))
       |(go_at_call 14;exact kept_same (KR.out _ _)))))
      refine wpQuiet_nil ?_
      rintro _ ⟨wk,rfl⟩
      have D11:=hide (D10.out.next wk.below)
      clear ka k8 k1 y3 y6 yr KV KR LX LY LA D10
      go_wp2_with fail
      go_roundw
      case rel=>exact ⟨i+1,Zt,by omega,by go_num,⟨D11.out.1,D11.out.2.1,D11.out.2.2.1,G10.out,D11.out.2.2.2.2⟩,by have:=L10.out;omega⟩
      case measure=>simp [intOf];omega
    ·skip
     obtain ⟨Z1,hZ1⟩:∃Z1,Z1=Z:=⟨_,rfl⟩
     rw [←hZ1] at D0 GK HZ
     have G9:=hide GK.out
     have L9:=hide (show Z1 17 0≤32767*((i:Int)+1) by have:=HZ.out;omega)
     have D9:=hide D0.out
     have m1:=D0.out.at 1 (x:=.int .i64 At) rfl
     rw [HWA.out,←hga] at m1
     clear D0 GK HZ hZ1
     rw [HWA.out] at D9
     by_cases h9:(i:Int)%9=4
     ·set_option maxRecDepth 20000 in
      go_wp2_with fail
      refine (like_is D9.out.1 D9.out.2.1 NX.out.1 NX.out.2.1 NX.out.2.2.1 NX.out.2.2.2).mono ?_
      rintro e wl ⟨rfl,xl,ol⟩
      obtain ⟨Zt,hZt⟩:∃Zt,setZ Z1=Zt:=⟨_,rfl⟩
      have D10:=hide (show Duo W qm b v c d b' c' d' r' ga bs #[.int .i64 kk,.int .i64 At,.int .i64 Vv] Zt (setZ Zt) wl by rw [←hZt,set_set];exact D9.out.p AA.out xl ol)
      have G10:=hide (show ∀k,GZ k (Zt k) by rw [←hZt];exact good_set G9.out)
      have L10:=hide (show Zt 17 0≤32767*((i:Int)+1) by rw [←hZt];show (0:Int)≤_;omega)
      clear hZt xl ol D9 G9 L9
      obtain ⟨p,hp⟩:∃p,bits .and .i64 At 8191=p:=⟨_,rfl⟩
      have p0:0≤p∧p<8192:=by rw [←hp];rw [show bits .and .i64 At 8191=At%8192 from and_mask 13 (by decide) At];omega
      have a1:=D10.out.at 1 (x:=.int .i64 At) rfl
      go_wp2_with fail
      have LX:=hide D10.out.1.1.lt
      have LY:=hide D10.out.2.1.1.lt
      have LA:=hide (lt_of_block D10.out.2.2.2.1)
      have ka:=kept_cell a1 LA.out
      obtain ⟨mv,hmv⟩:∃mv,Zt 8 p.toNat=mv:=⟨_,rfl⟩
      have mv0:0≤mv∧mv<256:=by rw [←hmv];exact G10.out 8 p.toNat
      have HMV:=hide hmv
      clear hmv
      have k8:=kept_cell (show wl.cell? ⟨b,283+p.toNat,none⟩=some (.int .u8 mv) from by rw [←HMV.out];exact D10.out.1.1.get 8 rfl p.toNat (by omega) (a:=283+p.toNat) (by rw [D10.out.1.isB.off 8 (a:=283) rfl]) (by omega)) LX.out
      have k1:=kept_cell (show wl.cell? ⟨b,21,none⟩=some (.pointer (some ⟨v,0,none⟩)) from D10.out.1.1.get1 1 rfl (a:=21) (D10.out.1.isB.off 1 rfl) (by decide)) LX.out
      have y3:=kept_cell (show wl.cell? ⟨b',3,none⟩=some (.slice (some ⟨r',0,none⟩) 8192 8192) from D10.out.2.1.1.get1 3 rfl (a:=3) (D10.out.2.1.2.2.2.1.off 3 rfl) (by decide)) LY.out
      have y6:=kept_cell (show wl.cell? ⟨b',33,none⟩=some (.pointer (some ⟨c',0,none⟩)) from D10.out.2.1.1.get1 6 rfl (a:=33) (D10.out.2.1.2.2.2.1.off 6 rfl) (by decide)) LY.out
      have yr:=kept_cell (show wl.cell? ⟨r',p.toNat,none⟩=some (.int .i64 mv) from by rw [←HMV.out];exact HasF.int D10.out.2.1.2.2.1 p.toNat (by omega)) (lt_of_block D10.out.2.1.2.2.1)
      have KV:=hide (fun (x:Kept wl) (n:Int)=>word_is v _ _ _ _ _ _ _ (D10.out.1.next x.below).2.1 n (wordAt (Zt 18) n) rfl)
      have KR:=hide (fun (x:Kept wl) (n:Int)=>rword_is c' d' _ _ _ _ _ _ _ (D10.out.2.1.next x.below).2.1 n (wordAt (Zt 18) n) rfl)
      clear a1
      haveI:=kept_some wl
      refine wp_region_kept (by kernel_rfl) (by kernel_rfl) ?_
      try dsimp only [List.append_eq,List.cons_append,List.nil_append]
      repeat (go_big_quiet_step ((first
       |(go_at_call 13;exact kept_same (KV.out _ _))
       |(go_at_call 14;exact kept_same (KR.out _ _)))))
      refine wpQuiet_nil ?_
      rintro _ ⟨wk,rfl⟩
      have D11:=hide (D10.out.next wk.below)
      clear ka k8 k1 y3 y6 yr KV KR LX LY LA D10
      go_wp2_with fail
      go_roundw
      case rel=>exact ⟨i+1,Zt,by omega,by go_num,⟨D11.out.1,D11.out.2.1,D11.out.2.2.1,G10.out,D11.out.2.2.2.2⟩,by have:=L10.out;omega⟩
      case measure=>simp [intOf];omega
     ·obtain ⟨Zt,hZt⟩:∃Zt,Zt=Z1:=⟨_,rfl⟩
      have D10:=hide (show Duo W qm b v c d b' c' d' r' ga bs #[.int .i64 kk,.int .i64 At,.int .i64 Vv] Zt (setZ Zt) (wr.alloc (.cells #[.int .i64 kk,.int .i64 At,.int .i64 Vv] 31)) by rw [hZt];exact D9.out)
      have G10:=hide (show ∀k,GZ k (Zt k) by rw [hZt];exact G9.out)
      have L10:=hide (show Zt 17 0≤32767*((i:Int)+1) by rw [hZt];exact L9.out)
      clear hZt D9 G9 L9
      obtain ⟨p,hp⟩:∃p,bits .and .i64 At 8191=p:=⟨_,rfl⟩
      have p0:0≤p∧p<8192:=by rw [←hp];rw [show bits .and .i64 At 8191=At%8192 from and_mask 13 (by decide) At];omega
      have a1:=D10.out.at 1 (x:=.int .i64 At) rfl
      go_wp2_with fail
      have LX:=hide D10.out.1.1.lt
      have LY:=hide D10.out.2.1.1.lt
      have LA:=hide (lt_of_block D10.out.2.2.2.1)
      have ka:=kept_cell a1 LA.out
      obtain ⟨mv,hmv⟩:∃mv,Zt 8 p.toNat=mv:=⟨_,rfl⟩
      have mv0:0≤mv∧mv<256:=by rw [←hmv];exact G10.out 8 p.toNat
      have HMV:=hide hmv
      clear hmv
      have k8:=kept_cell (show (wr.alloc (.cells #[.int .i64 kk,.int .i64 At,.int .i64 Vv] 31)).cell? ⟨b,283+p.toNat,none⟩=some (.int .u8 mv) from by rw [←HMV.out];exact D10.out.1.1.get 8 rfl p.toNat (by omega) (a:=283+p.toNat) (by rw [D10.out.1.isB.off 8 (a:=283) rfl]) (by omega)) LX.out
      have k1:=kept_cell (show (wr.alloc (.cells #[.int .i64 kk,.int .i64 At,.int .i64 Vv] 31)).cell? ⟨b,21,none⟩=some (.pointer (some ⟨v,0,none⟩)) from D10.out.1.1.get1 1 rfl (a:=21) (D10.out.1.isB.off 1 rfl) (by decide)) LX.out
      have y3:=kept_cell (show (wr.alloc (.cells #[.int .i64 kk,.int .i64 At,.int .i64 Vv] 31)).cell? ⟨b',3,none⟩=some (.slice (some ⟨r',0,none⟩) 8192 8192) from D10.out.2.1.1.get1 3 rfl (a:=3) (D10.out.2.1.2.2.2.1.off 3 rfl) (by decide)) LY.out
      have y6:=kept_cell (show (wr.alloc (.cells #[.int .i64 kk,.int .i64 At,.int .i64 Vv] 31)).cell? ⟨b',33,none⟩=some (.pointer (some ⟨c',0,none⟩)) from D10.out.2.1.1.get1 6 rfl (a:=33) (D10.out.2.1.2.2.2.1.off 6 rfl) (by decide)) LY.out
      have yr:=kept_cell (show (wr.alloc (.cells #[.int .i64 kk,.int .i64 At,.int .i64 Vv] 31)).cell? ⟨r',p.toNat,none⟩=some (.int .i64 mv) from by rw [←HMV.out];exact HasF.int D10.out.2.1.2.2.1 p.toNat (by omega)) (lt_of_block D10.out.2.1.2.2.1)
      have KV:=hide (fun (x:Kept (wr.alloc (.cells #[.int .i64 kk,.int .i64 At,.int .i64 Vv] 31))) (n:Int)=>word_is v _ _ _ _ _ _ _ (D10.out.1.next x.below).2.1 n (wordAt (Zt 18) n) rfl)
      have KR:=hide (fun (x:Kept (wr.alloc (.cells #[.int .i64 kk,.int .i64 At,.int .i64 Vv] 31))) (n:Int)=>rword_is c' d' _ _ _ _ _ _ _ (D10.out.2.1.next x.below).2.1 n (wordAt (Zt 18) n) rfl)
      clear a1
      haveI:=kept_some (wr.alloc (.cells #[.int .i64 kk,.int .i64 At,.int .i64 Vv] 31))
      refine wp_region_kept (by kernel_rfl) (by kernel_rfl) ?_
      try dsimp only [List.append_eq,List.cons_append,List.nil_append]
      repeat (go_big_quiet_step ((first
       |(go_at_call 13;exact kept_same (KV.out _ _))
       |(go_at_call 14;exact kept_same (KR.out _ _)))))
      refine wpQuiet_nil ?_
      rintro _ ⟨wk,rfl⟩
      have D11:=hide (D10.out.next wk.below)
      clear ka k8 k1 y3 y6 yr KV KR LX LY LA D10
      go_wp2_with fail
      go_roundw
      case rel=>exact ⟨i+1,Zt,by omega,by go_num,⟨D11.out.1,D11.out.2.1,D11.out.2.2.1,G10.out,D11.out.2.2.2.2⟩,by have:=L10.out;omega⟩
      case measure=>simp [intOf];omega
   ·skip
    go_wp2_with fail
    refine (like_is PR.out.1 PR.out.2.1 NX.out.1 NX.out.2.1 NX.out.2.2.1 NX.out.2.2.2).mono ?_
    rintro e wl ⟨rfl,xl,ol⟩
    have BL:=hide (PR.out.p AP.out xl ol).2.2.2.2
    clear xl ol PR
    go_wp2_with fail
    go_ret
    exact ⟨rfl,BL.out⟩
  ·skip
   go_wp2_with fail
   refine (like_is PR.out.1 PR.out.2.1 NX.out.1 NX.out.2.1 NX.out.2.2.1 NX.out.2.2.2).mono ?_
   rintro e wl ⟨rfl,xl,ol⟩
   have BL:=hide (PR.out.p AP.out xl ol).2.2.2.2
   clear xl ol PR
   go_wp2_with fail
   go_ret
   exact ⟨rfl,BL.out⟩
end Go.Proofs.YtnllcknfmciebaaGreatDoor
