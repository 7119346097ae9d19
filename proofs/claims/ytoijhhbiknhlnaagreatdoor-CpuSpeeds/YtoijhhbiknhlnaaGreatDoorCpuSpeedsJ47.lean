/- Texts put together. -/
import Derived.Test.YtoijhhbiknhlnaaGreatDoorCpuSpeedsJ46
import Derived.Test.YtoijhhbiknhlnaaGreatDoorCpuSpeedsJ12
import Derived.Test.YtoijhhbiknhlnaaGreatDoorCpuSpeedsJ13
import Derived.Test.YtoijhhbiknhlnaaGreatDoorCpuSpeedsJ24
namespace Go.Proofs.YtoijhhbiknhlnaaGreatDoor
set_option maxHeartbeats 2000000
set_option maxRecDepth 20000
open B4 C3 D24 G6 I11 J23 L24 M5 P22 R15 T10 V12 W13
open Go.RowKit
set_option linter.unusedVariables false
def MadeP (W w:World) (b v c d:Nat) (b' c' d' r':Nat) (P:Int) (sl:Value) (bs:List Int) (Z:Nat→Nat→Int):Prop:=
 HasP w b v c d bs Z∧HasD w b' c' d' r' P sl Z∧(W.heap.size≤b∧W.heap.size≤v∧W.heap.size≤b'∧W.heap.size≤c'∧W.heap.size≤d'∧W.heap.size≤r')∧(∃NN,((b<NN∧v<NN∧c<NN∧d<NN)∧NN≤b'∧NN≤c'∧NN≤d'∧NN≤r'))∧Below W.heap.size W w
theorem zes {w w':World} {g:Nat} {o:Obj} (h:w.heap[g]? = some o) (k:Below w.heap.size w w'):w'.heap[g]? = some o:=(k.block g (lt_of_block h)).trans h
def keyF (k0 k1 k2 k3 k4:Int):Nat→Int
 |0=>k0
 |1=>k1
 |2=>k2
 |3=>k3
 |_=>k4
theorem zum (K:Nat→Int) (k:Nat):pcZ (padZ K (k+1))=updC (updC (pcZ (padZ K k)) (2*k) (.int .i64 (K k))) (2*k+1) (.bool (k==2)):=funext fun j=>by
 unfold pcZ J23.pc updC;rw [zqL];dsimp only
 by_cases e:j%2=0
 ·rw [if_pos e,if_pos e,if_neg (show ¬j=2*k+1 by omega)]
  by_cases e1:j=2*k
  ·rw [if_pos e1,show 2*(j/2)=2*k by omega];rw [if_pos rfl]
  ·rw [if_neg e1];rw [if_neg (by omega),if_neg (by omega)]
 ·rw [if_neg e,if_neg e,if_neg (show ¬j=2*k by omega)]
  by_cases e1:j=2*k+1
  ·rw [if_pos e1,show 2*(j/2)+1=2*k+1 by omega];rw [if_neg (by omega),if_pos rfl];cases (k==2)<;>rfl
  ·rw [if_neg e1];rw [if_neg (by omega),if_neg (by omega)]
theorem zdA {b:Nat} {w w':World} (k:But b w w'):OnlyE (fun i=>i=b) w w':=⟨k.1,k.2.1,k.2.2.1,k.size,fun i hi hE=>k.block i hi hE⟩
theorem zqM {w:World} {b v c d:Nat} {bs:List Int} {K:Nat→Int} {k:Nat} (hk:k<5) (h:HasP w b v c d bs (Z0 K k)):
  HasP ((w.setCell ⟨b,9251+2*k,none⟩ (.int .i64 (K k))).setCell ⟨b,9252+2*k,none⟩ (.bool (k==2))) b v c d bs (Z0 K (k+1))∧But b w ((w.setCell ⟨b,9251+2*k,none⟩ (.int .i64 (K k))).setCell ⟨b,9252+2*k,none⟩ (.bool (k==2))):=by
 have kb:=((But.refl b w).set (9251+2*k) (.int .i64 (K k))).set (9252+2*k) (.bool (k==2));refine ⟨?_,kb⟩;have q1:=h.1.put 15 rfl (2*k) (by omega) (a:=9251+2*k) (by rw [h.isB.off 15 (a:=9251) rfl]) (.int .i64 (K k));have q2:=q1.put 15 (n:=10) (f:=updC (pcZ (padZ K k)) (2*k) (.int .i64 (K k))) rfl (2*k+1) (by omega) (a:=9252+2*k) (by rw [(h.isB.set (k:=15) rfl _).off 15 (a:=9251) rfl];omega) (.bool (k==2));rw [List.set_set] at q2;have q3:=HasX.lay h kb 15 (s':=pcZ (padZ K (k+1))) rfl (by rw [zum];exact q2) (by decide) (by decide);exact q3
theorem zqN {w:World} {b c d r:Nat} {P:Int} {sl:Value} {K:Nat→Int} {k:Nat} (hk:k<5) (h:HasD w b c d r P sl (Z0 K k)):
  HasD ((w.setCell ⟨b,1061+2*k,none⟩ (.int .i64 (K k))).setCell ⟨b,1062+2*k,none⟩ (.bool (k==2))) b c d r P sl (Z0 K (k+1))∧But b w ((w.setCell ⟨b,1061+2*k,none⟩ (.int .i64 (K k))).setCell ⟨b,1062+2*k,none⟩ (.bool (k==2))):=by
 have kb:=((But.refl b w).set (1061+2*k) (.int .i64 (K k))).set (1062+2*k) (.bool (k==2));refine ⟨?_,kb⟩;have y:=h.2.2.2.1;have q1:=h.1.put 17 rfl (2*k) (by omega) (a:=1061+2*k) (by rw [y.off 17 (a:=1061) rfl]) (.int .i64 (K k));have q2:=q1.put 17 (n:=10) (f:=updC (pcZ (padZ K k)) (2*k) (.int .i64 (K k))) rfl (2*k+1) (by omega) (a:=1062+2*k) (by rw [(y.set (k:=17) rfl _).off 17 (a:=1061) rfl];omega) (.bool (k==2));rw [List.set_set] at q2;have q3:=D24.HasY.row h kb (L':=(YP P sl r c (Z0 K k)).set 17 (10,pcZ (padZ K (k+1)))) (by rw [zum];exact q2) (y.set rfl _) rfl rfl;exact q3
theorem zlY (k0 k1 k2 k3 k4:Int) {w:World} (hT:Tabs w) (hE:HasErr w):
  Calls Tryz.prog 27 #[.int .i64 1,.slice none 0 0,.agg #[.int .i64 k0,.int .i64 k1,.int .i64 k2,.int .i64 k3,.int .i64 k4]] w fun e w'=>∃b v c d b' c' d' r' P sl bs,e=Ending.returned (.tuple #[.pointer (some ⟨b,0,none⟩),.pointer (some ⟨b',0,none⟩)])∧bs.length=16384∧MadeP w w' b v c d b' c' d' r' P sl bs (Z0 (keyF k0 k1 k2 k3 k4) 5):=by
 have HT:=hide hT;have HE:=hide hE;have RN:=hide (fun w=>zuT 2 (by decide) w);clear hT hE;obtain ⟨K,hK⟩:∃K,K=keyF k0 k1 k2 k3 k4:=⟨_,rfl⟩
 rw [←hK];replace hK:=hide hK;have e3:bits .and .i64 1 3=1:=by decide
 go_enter Tryz.func27,Tryz.ntmps27;go_wp2_with fail;obtain ⟨w0,hw0⟩:∃w0,w0=((w.alloc (.cells #[.int .i64 k0,.int .i64 k1,.int .i64 k2,.int .i64 k3,.int .i64 k4] 95)).alloc (.cells #[.int .i64 1,.int .i64 2,.int .i64 4,.int .i64 8] 3)):=⟨_,rfl⟩
 have B0:=hide (show Below w.heap.size w w0 by rw [hw0];exact ((Below.refl _ w).alloc (Nat.le_refl _) _).alloc ((Below.refl _ w).alloc (Nat.le_refl _) _).size _)
 have G0:=hide (show w0.heap[w.heap.size]? = some (.cells #[.int .i64 k0,.int .i64 k1,.int .i64 k2,.int .i64 k3,.int .i64 k4] 95 (0,0)) by
  have e:(w.alloc (.cells #[.int .i64 k0,.int .i64 k1,.int .i64 k2,.int .i64 k3,.int .i64 k4] 95)).heap[w.heap.size]? = some (.cells #[.int .i64 k0,.int .i64 k1,.int .i64 k2,.int .i64 k3,.int .i64 k4] 95 (0,0)):=heap_alloc_new _ _;rw [hw0]
  exact zes e ((Below.refl _ _).alloc (Nat.le_refl _) _))
 rw [←hw0];clear hw0;refine (RN.out w0).mono ?_;rintro e w1 ⟨bs,hl,rfl,hb,b1⟩;have KL:=hide (zrT w0.heap.size 0 (2*8192) bs w1 (fun i hi=>by rw [Nat.zero_add];exact (hb.cell i hi).1) hb.2 (by omega) (by omega) (by decide) hb.lt ((HT.out.next B0.out).next b1).1 ((HE.out.next B0.out).next b1));have HL:=hide hl;have B1:=hide (zar B0.out b1);have G1:=hide (zes G0.out b1);rw [hl] at KL;rw [show zdr (2*8192-zbz (2*8192))=0 by decide,show zbz (2*8192)=0 by decide,List.drop_zero] at KL;clear hb b1 hl G0;go_wp2_with fail;refine KL.out.mono ?_;rintro e w2 ⟨h2,b2⟩;rcases h2 with ⟨h3,_⟩|⟨_,c,rfl,d,_,_,hc,hd⟩
 ·exact absurd rfl h3
 have HN:=hide (zyd (w:=w2) (c:=c) (d:=d) (bs:=bs) ⟨hc,hd,zfP hc⟩ (by rw [HL.out];decide) (by rw [HL.out];decide) ((HT.out.next B1.out).next b2));have B2:=hide (zar B1.out b2);have G2:=hide (zes G1.out b2);clear hc hd b2 KL G1;go_wp2_with fail;refine HN.out.mono ?_;rintro e w3 ⟨b,v,rfl,x3,⟨lb,lv⟩,b3⟩;have KY:=hide (D24.ynew_any (some ⟨w0.heap.size,0,none⟩) (2*8192) (2*8192) (by decide) w3);have HB3:=hide (show b<w3.heap.size∧v<w3.heap.size∧c<w3.heap.size∧d<w3.heap.size from ⟨x3.1.lt,x3.2.1.lt,x3.2.2.1.2.2,x3.2.2.1.2.1.lt⟩);have X3:=hide x3;have NB:=hide (show w.heap.size≤b∧w.heap.size≤v from ⟨Nat.le_trans B2.out.size lb,Nat.le_trans B2.out.size lv⟩);have GB:=hide (show w.heap.size≠b∧w.heap.size≠v from ⟨fun e=>absurd (lt_of_block G2.out) (by omega),fun e=>absurd (lt_of_block G2.out) (by omega)⟩);have B3:=hide (zar B2.out b3);have G3:=hide (zes G2.out b3);clear x3 lb lv b3 HN G2;go_wp2_with fail;refine KY.out.mono ?_;rintro e w4 ⟨b',c',d',r',rfl,y4,⟨l1,l2,l3,l4⟩,b4⟩
 have X4:=hide (show HasP w4 b v c d bs (Z0 K 0) by
  have q:=X3.out.next b4;rw [←xp_0 K] at q
  exact q)
 have Y4:=hide (show HasD w4 b' c' d' r' (((2*8192:Nat):Int)/8192) (.slice (some ⟨w0.heap.size,0,none⟩) (2*8192) (2*8192)) (Z0 K 0) by
  rw [←yp_0 K] at y4
  exact y4)
 obtain ⟨NN,hNN⟩:∃NN,NN=w3.heap.size:=⟨_,rfl⟩
 have NE:=hide (show (w.heap.size≤b∧w.heap.size≤v∧w.heap.size≤b'∧w.heap.size≤c'∧w.heap.size≤d'∧w.heap.size≤r')∧((b<NN∧v<NN∧c<NN∧d<NN)∧NN≤b'∧NN≤c'∧NN≤d'∧NN≤r') by
  have:=NB.out;have:=HB3.out;have:=B3.out.size;omega)
 have HB':=hide (show High b' from HT.out.high NE.out.1.2.2.1);have GB':=hide (show w.heap.size≠b' by have:=lt_of_block G3.out;omega);have B4:=hide (zar B3.out b4);have G4:=hide (zes G3.out b4);clear hNN y4 l1 l2 l3 l4 b4 KY G3 X3 B3 NB HB3;go_wp2_with fail;go_loopw [13] (fun v13 wr=>∃k:Nat,k≤5∧v13=.int .i64 k∧HasP wr b v c d bs (Z0 K k)∧HasD wr b' c' d' r' (((2*8192:Nat):Int)/8192) (.slice (some ⟨w0.heap.size,0,none⟩) (2*8192) (2*8192)) (Z0 K k)∧wr.heap[w.heap.size]? = some (.cells #[.int .i64 k0,.int .i64 k1,.int .i64 k2,.int .i64 k3,.int .i64 k4] 95 (0,0))∧Below w.heap.size w wr) (fun v13 _=>5-(intOf v13).toNat)
 case atStart=>exact ⟨0,Nat.zero_le _,rfl,X4.out,Y4.out,G4.out,B4.out⟩
 case round=>
  clear X4 Y4 G4 B4;obtain ⟨k,hk,rfl,h1,h2,h3,h4⟩:=hrel;have X5:=hide h1;have Y5:=hide h2;have G5:=hide h3;have B5:=hide h4;clear h1 h2 h3 h4;rcases (show k=0∨k=1∨k=2∨k=3∨k=4∨k=5 by omega) with rfl|rfl|rfl|rfl|rfl|rfl
  ·skip
   have ck:wr.cell? ⟨w.heap.size,0,none⟩=some (.int .i64 k0):=(cell_of_row wr w.heap.size 0 _ _ _ G5.out).trans rfl;obtain ⟨ua,xa⟩:∃u,wr.cell? ⟨b,9251,none⟩=some u:=⟨_,X5.out.1.get 15 rfl (2*0) (by decide) (a:=9251) (by rw [X5.out.isB.off 15 (a:=9251) rfl]) (by decide)⟩
   obtain ⟨ub,xb⟩:∃u,wr.cell? ⟨b,9252,none⟩=some u:=⟨_,X5.out.1.get 15 rfl (2*0+1) (by decide) (a:=9252) (by rw [X5.out.isB.off 15 (a:=9251) rfl]) (by decide)⟩
   have fa:=X5.out.1.frozen 9251;have fb:=X5.out.1.frozen 9252;go_wp2_with fail;go_region
   all_goals (try go_wp2)
   have KX:=hide (zqM (k:=0) (by decide) X5.out);rw [show K 0=k0 by rw [hK.out];rfl] at KX;obtain ⟨w6,hw6⟩:∃w6,w6=((wr.setCell ⟨b,9251,none⟩ (.int .i64 k0)).setCell ⟨b,9252,none⟩ (.bool false)):=⟨_,rfl⟩
   have X6:=hide (show HasP w6.drew b v c d bs (Z0 K (0+1))∧But b wr w6.drew by rw [hw6];exact ⟨KX.out.1.next (Below.refl _ _).drew,KX.out.2.drew⟩);rw [←hw6];clear xa xb fa fb ck KX hw6;generalize w6.drew=w7 at *;have Y6:=hide (Y5.out.only (zdA X6.out.2) (fun e=>absurd e (by have:=NE.out.2;omega)) (fun e=>absurd e (by have:=NE.out.2;omega)) (fun e=>absurd e (by have:=NE.out.2;omega)) (fun e=>absurd e (by have:=NE.out.2;omega)));have G6:=hide (X6.out.2.obj G5.out GB.out.1);have B6:=hide (B5.out.trans (X6.out.2.below NE.out.1.1 B5.out.size));clear X5 Y5 G5 B5;have ck:w7.cell? ⟨w.heap.size,0,none⟩=some (.int .i64 k0):=(cell_of_row w7 w.heap.size 0 _ _ _ G6.out).trans rfl;obtain ⟨ua,xa⟩:∃u,w7.cell? ⟨b',1061,none⟩=some u:=⟨_,Y6.out.1.get 17 rfl (2*0) (by decide) (a:=1061) (by rw [Y6.out.2.2.2.1.off 17 (a:=1061) rfl]) (by decide)⟩
   obtain ⟨ub,xb⟩:∃u,w7.cell? ⟨b',1062,none⟩=some u:=⟨_,Y6.out.1.get 17 rfl (2*0+1) (by decide) (a:=1062) (by rw [Y6.out.2.2.2.1.off 17 (a:=1061) rfl]) (by decide)⟩
   have fa:=Y6.out.1.frozen 1061;have fb:=Y6.out.1.frozen 1062;go_region
   all_goals (try go_wp2)
   have KX:=hide (zqN (k:=0) (by decide) Y6.out);rw [show K 0=k0 by rw [hK.out];rfl] at KX;have D7:But b' w7 (((w7.setCell ⟨b',1061,none⟩ (.int .i64 k0)).setCell ⟨b',1062,none⟩ (.bool false))).drew:=KX.out.2.drew;refine ⟨⟨0+1,by decide,by go_num,?_,KX.out.1.next (Below.refl _ _).drew,D7.obj G6.out GB'.out,B6.out.trans (D7.below NE.out.1.2.2.1 B6.out.size)⟩,by simp [intOf]⟩;exact X6.out.1.only (zdA D7) (fun e=>absurd e (by have:=NE.out.2;omega)) (fun e=>absurd e (by have:=NE.out.2;omega)) (fun e=>absurd e (by have:=NE.out.2;omega)) (fun e=>absurd e (by have:=NE.out.2;omega)) (fun i e=>e▸HB'.out)
  ·skip
   have ck:wr.cell? ⟨w.heap.size,1,none⟩=some (.int .i64 k1):=(cell_of_row wr w.heap.size 1 _ _ _ G5.out).trans rfl;obtain ⟨ua,xa⟩:∃u,wr.cell? ⟨b,9253,none⟩=some u:=⟨_,X5.out.1.get 15 rfl (2*1) (by decide) (a:=9253) (by rw [X5.out.isB.off 15 (a:=9251) rfl]) (by decide)⟩
   obtain ⟨ub,xb⟩:∃u,wr.cell? ⟨b,9254,none⟩=some u:=⟨_,X5.out.1.get 15 rfl (2*1+1) (by decide) (a:=9254) (by rw [X5.out.isB.off 15 (a:=9251) rfl]) (by decide)⟩
   have fa:=X5.out.1.frozen 9253;have fb:=X5.out.1.frozen 9254;go_wp2_with fail;go_region
   all_goals (try go_wp2)
   have KX:=hide (zqM (k:=1) (by decide) X5.out);rw [show K 1=k1 by rw [hK.out];rfl] at KX;obtain ⟨w6,hw6⟩:∃w6,w6=((wr.setCell ⟨b,9253,none⟩ (.int .i64 k1)).setCell ⟨b,9254,none⟩ (.bool false)):=⟨_,rfl⟩
   have X6:=hide (show HasP w6.drew b v c d bs (Z0 K (1+1))∧But b wr w6.drew by rw [hw6];exact ⟨KX.out.1.next (Below.refl _ _).drew,KX.out.2.drew⟩);rw [←hw6];clear xa xb fa fb ck KX hw6;generalize w6.drew=w7 at *;have Y6:=hide (Y5.out.only (zdA X6.out.2) (fun e=>absurd e (by have:=NE.out.2;omega)) (fun e=>absurd e (by have:=NE.out.2;omega)) (fun e=>absurd e (by have:=NE.out.2;omega)) (fun e=>absurd e (by have:=NE.out.2;omega)));have G6:=hide (X6.out.2.obj G5.out GB.out.1);have B6:=hide (B5.out.trans (X6.out.2.below NE.out.1.1 B5.out.size));clear X5 Y5 G5 B5;have ck:w7.cell? ⟨w.heap.size,1,none⟩=some (.int .i64 k1):=(cell_of_row w7 w.heap.size 1 _ _ _ G6.out).trans rfl;obtain ⟨ua,xa⟩:∃u,w7.cell? ⟨b',1063,none⟩=some u:=⟨_,Y6.out.1.get 17 rfl (2*1) (by decide) (a:=1063) (by rw [Y6.out.2.2.2.1.off 17 (a:=1061) rfl]) (by decide)⟩
   obtain ⟨ub,xb⟩:∃u,w7.cell? ⟨b',1064,none⟩=some u:=⟨_,Y6.out.1.get 17 rfl (2*1+1) (by decide) (a:=1064) (by rw [Y6.out.2.2.2.1.off 17 (a:=1061) rfl]) (by decide)⟩
   have fa:=Y6.out.1.frozen 1063;have fb:=Y6.out.1.frozen 1064;go_region
   all_goals (try go_wp2)
   have KX:=hide (zqN (k:=1) (by decide) Y6.out);rw [show K 1=k1 by rw [hK.out];rfl] at KX;have D7:But b' w7 (((w7.setCell ⟨b',1063,none⟩ (.int .i64 k1)).setCell ⟨b',1064,none⟩ (.bool false))).drew:=KX.out.2.drew;refine ⟨⟨1+1,by decide,by go_num,?_,KX.out.1.next (Below.refl _ _).drew,D7.obj G6.out GB'.out,B6.out.trans (D7.below NE.out.1.2.2.1 B6.out.size)⟩,by simp [intOf]⟩;exact X6.out.1.only (zdA D7) (fun e=>absurd e (by have:=NE.out.2;omega)) (fun e=>absurd e (by have:=NE.out.2;omega)) (fun e=>absurd e (by have:=NE.out.2;omega)) (fun e=>absurd e (by have:=NE.out.2;omega)) (fun i e=>e▸HB'.out)
  ·skip
   have ck:wr.cell? ⟨w.heap.size,2,none⟩=some (.int .i64 k2):=(cell_of_row wr w.heap.size 2 _ _ _ G5.out).trans rfl;obtain ⟨ua,xa⟩:∃u,wr.cell? ⟨b,9255,none⟩=some u:=⟨_,X5.out.1.get 15 rfl (2*2) (by decide) (a:=9255) (by rw [X5.out.isB.off 15 (a:=9251) rfl]) (by decide)⟩
   obtain ⟨ub,xb⟩:∃u,wr.cell? ⟨b,9256,none⟩=some u:=⟨_,X5.out.1.get 15 rfl (2*2+1) (by decide) (a:=9256) (by rw [X5.out.isB.off 15 (a:=9251) rfl]) (by decide)⟩
   have fa:=X5.out.1.frozen 9255;have fb:=X5.out.1.frozen 9256;go_wp2_with fail;go_region
   all_goals (try go_wp2)
   have KX:=hide (zqM (k:=2) (by decide) X5.out);rw [show K 2=k2 by rw [hK.out];rfl] at KX;obtain ⟨w6,hw6⟩:∃w6,w6=((wr.setCell ⟨b,9255,none⟩ (.int .i64 k2)).setCell ⟨b,9256,none⟩ (.bool true)):=⟨_,rfl⟩
   have X6:=hide (show HasP w6.drew b v c d bs (Z0 K (2+1))∧But b wr w6.drew by rw [hw6];exact ⟨KX.out.1.next (Below.refl _ _).drew,KX.out.2.drew⟩);rw [←hw6];clear xa xb fa fb ck KX hw6;generalize w6.drew=w7 at *;have Y6:=hide (Y5.out.only (zdA X6.out.2) (fun e=>absurd e (by have:=NE.out.2;omega)) (fun e=>absurd e (by have:=NE.out.2;omega)) (fun e=>absurd e (by have:=NE.out.2;omega)) (fun e=>absurd e (by have:=NE.out.2;omega)));have G6:=hide (X6.out.2.obj G5.out GB.out.1);have B6:=hide (B5.out.trans (X6.out.2.below NE.out.1.1 B5.out.size));clear X5 Y5 G5 B5;have ck:w7.cell? ⟨w.heap.size,2,none⟩=some (.int .i64 k2):=(cell_of_row w7 w.heap.size 2 _ _ _ G6.out).trans rfl;obtain ⟨ua,xa⟩:∃u,w7.cell? ⟨b',1065,none⟩=some u:=⟨_,Y6.out.1.get 17 rfl (2*2) (by decide) (a:=1065) (by rw [Y6.out.2.2.2.1.off 17 (a:=1061) rfl]) (by decide)⟩
   obtain ⟨ub,xb⟩:∃u,w7.cell? ⟨b',1066,none⟩=some u:=⟨_,Y6.out.1.get 17 rfl (2*2+1) (by decide) (a:=1066) (by rw [Y6.out.2.2.2.1.off 17 (a:=1061) rfl]) (by decide)⟩
   have fa:=Y6.out.1.frozen 1065;have fb:=Y6.out.1.frozen 1066;go_region
   all_goals (try go_wp2)
   have KX:=hide (zqN (k:=2) (by decide) Y6.out);rw [show K 2=k2 by rw [hK.out];rfl] at KX;have D7:But b' w7 (((w7.setCell ⟨b',1065,none⟩ (.int .i64 k2)).setCell ⟨b',1066,none⟩ (.bool true))).drew:=KX.out.2.drew;refine ⟨⟨2+1,by decide,by go_num,?_,KX.out.1.next (Below.refl _ _).drew,D7.obj G6.out GB'.out,B6.out.trans (D7.below NE.out.1.2.2.1 B6.out.size)⟩,by simp [intOf]⟩;exact X6.out.1.only (zdA D7) (fun e=>absurd e (by have:=NE.out.2;omega)) (fun e=>absurd e (by have:=NE.out.2;omega)) (fun e=>absurd e (by have:=NE.out.2;omega)) (fun e=>absurd e (by have:=NE.out.2;omega)) (fun i e=>e▸HB'.out)
  ·skip
   have ck:wr.cell? ⟨w.heap.size,3,none⟩=some (.int .i64 k3):=(cell_of_row wr w.heap.size 3 _ _ _ G5.out).trans rfl;obtain ⟨ua,xa⟩:∃u,wr.cell? ⟨b,9257,none⟩=some u:=⟨_,X5.out.1.get 15 rfl (2*3) (by decide) (a:=9257) (by rw [X5.out.isB.off 15 (a:=9251) rfl]) (by decide)⟩
   obtain ⟨ub,xb⟩:∃u,wr.cell? ⟨b,9258,none⟩=some u:=⟨_,X5.out.1.get 15 rfl (2*3+1) (by decide) (a:=9258) (by rw [X5.out.isB.off 15 (a:=9251) rfl]) (by decide)⟩
   have fa:=X5.out.1.frozen 9257;have fb:=X5.out.1.frozen 9258;go_wp2_with fail;go_region
   all_goals (try go_wp2)
   have KX:=hide (zqM (k:=3) (by decide) X5.out);rw [show K 3=k3 by rw [hK.out];rfl] at KX;obtain ⟨w6,hw6⟩:∃w6,w6=((wr.setCell ⟨b,9257,none⟩ (.int .i64 k3)).setCell ⟨b,9258,none⟩ (.bool false)):=⟨_,rfl⟩
   have X6:=hide (show HasP w6.drew b v c d bs (Z0 K (3+1))∧But b wr w6.drew by rw [hw6];exact ⟨KX.out.1.next (Below.refl _ _).drew,KX.out.2.drew⟩);rw [←hw6];clear xa xb fa fb ck KX hw6;generalize w6.drew=w7 at *;have Y6:=hide (Y5.out.only (zdA X6.out.2) (fun e=>absurd e (by have:=NE.out.2;omega)) (fun e=>absurd e (by have:=NE.out.2;omega)) (fun e=>absurd e (by have:=NE.out.2;omega)) (fun e=>absurd e (by have:=NE.out.2;omega)));have G6:=hide (X6.out.2.obj G5.out GB.out.1);have B6:=hide (B5.out.trans (X6.out.2.below NE.out.1.1 B5.out.size));clear X5 Y5 G5 B5;have ck:w7.cell? ⟨w.heap.size,3,none⟩=some (.int .i64 k3):=(cell_of_row w7 w.heap.size 3 _ _ _ G6.out).trans rfl;obtain ⟨ua,xa⟩:∃u,w7.cell? ⟨b',1067,none⟩=some u:=⟨_,Y6.out.1.get 17 rfl (2*3) (by decide) (a:=1067) (by rw [Y6.out.2.2.2.1.off 17 (a:=1061) rfl]) (by decide)⟩
   obtain ⟨ub,xb⟩:∃u,w7.cell? ⟨b',1068,none⟩=some u:=⟨_,Y6.out.1.get 17 rfl (2*3+1) (by decide) (a:=1068) (by rw [Y6.out.2.2.2.1.off 17 (a:=1061) rfl]) (by decide)⟩
   have fa:=Y6.out.1.frozen 1067;have fb:=Y6.out.1.frozen 1068;go_region
   all_goals (try go_wp2)
   have KX:=hide (zqN (k:=3) (by decide) Y6.out);rw [show K 3=k3 by rw [hK.out];rfl] at KX;have D7:But b' w7 (((w7.setCell ⟨b',1067,none⟩ (.int .i64 k3)).setCell ⟨b',1068,none⟩ (.bool false))).drew:=KX.out.2.drew;refine ⟨⟨3+1,by decide,by go_num,?_,KX.out.1.next (Below.refl _ _).drew,D7.obj G6.out GB'.out,B6.out.trans (D7.below NE.out.1.2.2.1 B6.out.size)⟩,by simp [intOf]⟩;exact X6.out.1.only (zdA D7) (fun e=>absurd e (by have:=NE.out.2;omega)) (fun e=>absurd e (by have:=NE.out.2;omega)) (fun e=>absurd e (by have:=NE.out.2;omega)) (fun e=>absurd e (by have:=NE.out.2;omega)) (fun i e=>e▸HB'.out)
  ·skip
   have ck:wr.cell? ⟨w.heap.size,4,none⟩=some (.int .i64 k4):=(cell_of_row wr w.heap.size 4 _ _ _ G5.out).trans rfl;obtain ⟨ua,xa⟩:∃u,wr.cell? ⟨b,9259,none⟩=some u:=⟨_,X5.out.1.get 15 rfl (2*4) (by decide) (a:=9259) (by rw [X5.out.isB.off 15 (a:=9251) rfl]) (by decide)⟩
   obtain ⟨ub,xb⟩:∃u,wr.cell? ⟨b,9260,none⟩=some u:=⟨_,X5.out.1.get 15 rfl (2*4+1) (by decide) (a:=9260) (by rw [X5.out.isB.off 15 (a:=9251) rfl]) (by decide)⟩
   have fa:=X5.out.1.frozen 9259;have fb:=X5.out.1.frozen 9260;go_wp2_with fail;go_region
   all_goals (try go_wp2)
   have KX:=hide (zqM (k:=4) (by decide) X5.out);rw [show K 4=k4 by rw [hK.out];rfl] at KX;obtain ⟨w6,hw6⟩:∃w6,w6=((wr.setCell ⟨b,9259,none⟩ (.int .i64 k4)).setCell ⟨b,9260,none⟩ (.bool false)):=⟨_,rfl⟩
   have X6:=hide (show HasP w6.drew b v c d bs (Z0 K (4+1))∧But b wr w6.drew by rw [hw6];exact ⟨KX.out.1.next (Below.refl _ _).drew,KX.out.2.drew⟩);rw [←hw6];clear xa xb fa fb ck KX hw6;generalize w6.drew=w7 at *;have Y6:=hide (Y5.out.only (zdA X6.out.2) (fun e=>absurd e (by have:=NE.out.2;omega)) (fun e=>absurd e (by have:=NE.out.2;omega)) (fun e=>absurd e (by have:=NE.out.2;omega)) (fun e=>absurd e (by have:=NE.out.2;omega)));have G6:=hide (X6.out.2.obj G5.out GB.out.1);have B6:=hide (B5.out.trans (X6.out.2.below NE.out.1.1 B5.out.size));clear X5 Y5 G5 B5;have ck:w7.cell? ⟨w.heap.size,4,none⟩=some (.int .i64 k4):=(cell_of_row w7 w.heap.size 4 _ _ _ G6.out).trans rfl;obtain ⟨ua,xa⟩:∃u,w7.cell? ⟨b',1069,none⟩=some u:=⟨_,Y6.out.1.get 17 rfl (2*4) (by decide) (a:=1069) (by rw [Y6.out.2.2.2.1.off 17 (a:=1061) rfl]) (by decide)⟩
   obtain ⟨ub,xb⟩:∃u,w7.cell? ⟨b',1070,none⟩=some u:=⟨_,Y6.out.1.get 17 rfl (2*4+1) (by decide) (a:=1070) (by rw [Y6.out.2.2.2.1.off 17 (a:=1061) rfl]) (by decide)⟩
   have fa:=Y6.out.1.frozen 1069;have fb:=Y6.out.1.frozen 1070;go_region
   all_goals (try go_wp2)
   have KX:=hide (zqN (k:=4) (by decide) Y6.out);rw [show K 4=k4 by rw [hK.out];rfl] at KX;have D7:But b' w7 (((w7.setCell ⟨b',1069,none⟩ (.int .i64 k4)).setCell ⟨b',1070,none⟩ (.bool false))).drew:=KX.out.2.drew;refine ⟨⟨4+1,by decide,by go_num,?_,KX.out.1.next (Below.refl _ _).drew,D7.obj G6.out GB'.out,B6.out.trans (D7.below NE.out.1.2.2.1 B6.out.size)⟩,by simp [intOf]⟩;exact X6.out.1.only (zdA D7) (fun e=>absurd e (by have:=NE.out.2;omega)) (fun e=>absurd e (by have:=NE.out.2;omega)) (fun e=>absurd e (by have:=NE.out.2;omega)) (fun e=>absurd e (by have:=NE.out.2;omega)) (fun i e=>e▸HB'.out)
  ·go_wp2_with fail;go_ret2;exact ⟨b,v,c,d,b',c',d',r',_,_,bs,rfl,HL.out,X5.out,Y5.out,NE.out.1,⟨NN,NE.out.2⟩,B5.out⟩
end Go.Proofs.YtoijhhbiknhlnaaGreatDoor
namespace Go.Proofs.YtoijhhbiknhlnaaGreatDoor.L25
set_option maxHeartbeats 2000000
set_option maxRecDepth 20000
open B4 C3 D24 G6 I11 J23 L24 M5 P22 R15 T10 V12 W13
open Go.RowKit
set_option linter.unusedVariables false
def putM (C D:Nat→Int) (n m:Nat):Nat→Int:=fun j=>if j<m then D j else if 1024≤j∧j<1024+n then C (j-1024) else 0
def putZ (C D:Nat→Int) (n m:Nat):Nat→Nat→Int:=upZ (Z0 (keyF 0 0 0 0 0) 5) 8 (putM C D n m)
def SlB (w:World) (sp:Option Addr) (len:Nat) (C:Nat→Int):Prop:=len≤9223372036854775807∧∀i,i<len→∃q o,sp=some ⟨q,o,none⟩∧w.cell? ⟨q,o+i,none⟩=some (.int .u8 (C i))∧q<w.heap.size∧0≤C i∧C i<256
theorem up_bv (f:Nat→Int) (i:Nat) (x:Int):updC (bv f) i (.int .u8 x)=bv (up f i x):=funext fun j=>by
 unfold updC bv up;split<;>rfl
theorem p_ram {w:World} {b v c d:Nat} {bs:List Int} {Z:Nat→Nat→Int} (h:HasP w b v c d bs Z) (a:Nat) (ha:a<8192) (x:Int):HasP (w.setCell ⟨b,283+a,none⟩ (.int .u8 x)) b v c d bs (upZ Z 8 (up (Z 8) a x))∧But b w (w.setCell ⟨b,283+a,none⟩ (.int .u8 x))∧w.cell? ⟨b,283+a,none⟩=some (.int .u8 (Z 8 a))∧w.frozen? ⟨b,283+a,none⟩=false:=by
 have kb:=(But.refl b w).set (283+a) (.int .u8 x);have q1:=h.1.put 8 rfl a ha (a:=283+a) (by rw [h.isB.off 8 (a:=283) rfl]) (.int .u8 x);rw [up_bv] at q1;have q3:=HasX.lay h kb 8 (s':=bv (up (Z 8) a x)) rfl q1 (by decide) (by decide);exact ⟨q3,kb,h.1.get 8 rfl a ha (a:=283+a) (by rw [h.isB.off 8 (a:=283) rfl]) (by omega),h.1.frozen _⟩
theorem zke (Z:Nat→Nat→Int) (k:Nat) (f g:Nat→Int):upZ (upZ Z k f) k g=upZ Z k g:=funext fun i=>by
 unfold upZ;split<;>rfl
theorem zkf (C D:Nat→Int) (n:Nat):upZ (putZ C D n 0) 8 (up (putZ C D n 0 8) (1024+n) (C n))=putZ C D (n+1) 0:=by
 unfold putZ;rw [zke,zdd]
 congr 1
 funext j;unfold up putM;rw [if_neg (Nat.not_lt_zero j),if_neg (Nat.not_lt_zero j)]
 by_cases e:j=1024+n
 ·rw [if_pos e,if_pos (by omega),e,Nat.add_sub_cancel_left]
 ·rw [if_neg e]
  by_cases e2:1024≤j∧j<1024+n
  ·rw [if_pos e2,if_pos (by omega)]
  ·rw [if_neg e2,if_neg (by omega)]
theorem zkg (C D:Nat→Int) (n m:Nat):upZ (putZ C D n m) 8 (up (putZ C D n m 8) m (D m))=putZ C D n (m+1):=by
 unfold putZ;rw [zke,zdd]
 congr 1
 funext j;unfold up putM
 by_cases e:j=m
 ·rw [if_pos e,if_pos (by omega),e]
 ·rw [if_neg e]
  by_cases e2:j<m
  ·rw [if_pos e2,if_pos (by omega)]
  ·rw [if_neg e2,if_neg (show ¬j<m+1 by omega)]
theorem zkh (C D:Nat→Int):putZ C D 0 0=Z0 (keyF 0 0 0 0 0) 5:=by
 have e:putM C D 0 0=Z0 (keyF 0 0 0 0 0) 5 8:=funext fun j=>by
  unfold putM;rw [if_neg (Nat.not_lt_zero j),if_neg (by omega)];rfl
 unfold putZ;rw [e,zhP]
end Go.Proofs.YtoijhhbiknhlnaaGreatDoor.L25
