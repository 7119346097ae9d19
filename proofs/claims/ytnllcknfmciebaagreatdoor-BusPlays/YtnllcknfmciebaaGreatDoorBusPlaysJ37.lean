/- The law's maker of both machines, at any number of pages and any bytes. -/
import Derived.Test.YtnllcknfmciebaaGreatDoorBusPlaysJ36
namespace Go.Proofs.YtnllcknfmciebaaGreatDoor
set_option maxRecDepth 20000
open B4 C3 D24 G6 I11 J23 L24 M5 P22 R15 T10 V12 W13
open Go.RowKit
set_option linter.unusedVariables false
set_option maxHeartbeats 1000000 in
theorem rom_empty (p:Nat) (hp:p≤1000) (a:Option Addr) (cap:Nat) (w:World):Calls Tryz.prog 15 #[.int .i64 (p:Int),.slice a 0 cap] w fun e w'=>∃bs:List Int,bs.length=p*8192∧e=Ending.returned (.slice (some ⟨w.heap.size,0,none⟩) (p*8192) (p*8192))∧Bytes 5 w' w.heap.size bs∧Below w.heap.size w w':=by
 obtain ⟨n,hn⟩:∃n,p*8192=n:=⟨_,rfl⟩
 have en:(p:Int)*8192=(n:Int):=by omega
 have hm:=mk_bytes n (by omega) w
 obtain ⟨w1,hw1⟩:∃w1,w1=(w.alloc (.cells ((List.replicate n (0:Int)).map (Value.int .u8)).toArray 5)):=⟨_,rfl⟩
 have B1:Hid (Bytes 5 w1 w.heap.size (List.replicate n 0)):=by subst hw1;exact hide Bytes.made
 have L1:Hid (Below w.heap.size w w1):=by subst hw1;exact hide ((Below.refl _ w).alloc (Nat.le_refl _) _)
 have n1:n≤8192000:=by omega
 rw [hn]
 rw [←hw1] at hm
 clear hw1 hn
 go_enter Tryz.func15,Tryz.ntmps15
 go_wp2_with fail
 go_loopw [6] (fun si wr=>∃(j:Nat) (bs:List Int),j≤n∧si=.int .i64 (j:Int)∧bs.length=n∧Bytes 5 wr w.heap.size bs∧Below w.heap.size w wr) (fun si _=>n-(intOf si).toNat)
 case atStart=>exact ⟨0,_,by omega,rfl,by simp,B1.out,L1.out⟩
 case round=>
  obtain ⟨j,bs,hj,rfl,hl,hb,bel⟩:=hrel
  by_cases h:j<n
  ·obtain ⟨hc,c0,c1⟩:=hb.cell j (by omega)
   have hf:=hb.free j
   have HB:=hide hb
   have BL:=hide bel
   clear hb bel
   go_wp2_with fail
   go_roundw
   case rel=>exact ⟨j+1,_,by omega,by go_num,by simpa using hl,HB.out.put j _ (by first|exact u8_wrap _|skip),BL.out.setCell (Nat.le_refl _) _⟩
   case measure=>simp [intOf];omega
  ·obtain rfl:j=n:=by omega
   have HB:=hide hb
   have BL:=hide bel
   clear hb bel
   go_wp2_with (first|(refine wpList_copy_splice rfl (.tmp 25) (.tmp 26) 22 22 rfl 5 Tryz.underlying22 (by kernel_rfl) (some ⟨w.heap.size,0,none⟩) a j j 0 cap rfl rfl w.heap.size 0 (bs.map (Value.int .u8)) 5 HB.out.1 [] (by simp) (fun h=>absurd h (by simp)) (by simp) (by simp) w.heap.size w BL.out (Nat.le_refl _) ?_;intro w5 h5 b5))
   go_ret
   refine ⟨bs,hl,rfl,⟨?_,HB.out.2⟩,b5⟩
   have h6:=h5.out
   rw [show splice (bs.map (Value.int .u8)) 0 []=bs.map (Value.int .u8) by simp [splice]] at h6
   exact h6
def Play (W w:World) (q b v c d b' c' d' r':Nat) (bs:List Int) (Z:Nat→Nat→Int):Prop:=
 HasP w b v c d bs Z∧HasD w b' c' d' r' ((bs.length/8192:Nat):Int) (.slice (some ⟨q,0,none⟩) bs.length bs.length) (setZ Z)∧Bytes 5 w q bs∧(∀k,GZ k (Z k))∧Below W.heap.size W w
def Apart (W:World) (q b v c d b' c' d' r':Nat):Prop:=(W.heap.size≤q∧W.heap.size≤b∧W.heap.size≤v∧W.heap.size≤b'∧W.heap.size≤c'∧W.heap.size≤d'∧W.heap.size≤r')∧(q≠b∧q≠v∧q≠b'∧q≠c'∧q≠d'∧q≠r')∧(∃NN,((b<NN∧v<NN∧c<NN∧d<NN)∧NN≤b'∧NN≤c'∧NN≤d'∧NN≤r'))
theorem four_at (i N:Nat) (h:(i=0∧N=1)∨(i=1∧N=2)∨(i=2∧N=4)∨(i=3∧N=8)):∀hi:i<[Value.int .i64 1,.int .i64 2,.int .i64 4,.int .i64 8].length,[Value.int .i64 1,.int .i64 2,.int .i64 4,.int .i64 8][i]=.int .i64 (N:Int):=by
 intro hi
 rcases h with ⟨rfl,rfl⟩|⟨rfl,rfl⟩|⟨rfl,rfl⟩|⟨rfl,rfl⟩<;>rfl
theorem plain_size (N n:Nat) (hn:N*8192=n) (h:N=1∨N=2∨N=4∨N=8):errOf (n-fromOf n)=0∧fromOf n=0:=by
 subst hn
 rcases h with rfl|rfl|rfl|rfl<;>decide
set_option maxHeartbeats 2000000 in
theorem made_short (k0 k1 k2 k3 k4 p:Int) (N:Nat) (hN:N=1∨N=2∨N=4∨N=8) (hq:((bits .and .i64 p 3).toNat=0∧N=1)∨((bits .and .i64 p 3).toNat=1∧N=2)∨((bits .and .i64 p 3).toNat=2∧N=4)∨((bits .and .i64 p 3).toNat=3∧N=8)) (a:Option Addr) (len cap:Nat) {W:World} (hT:Tabs W) (hE:HasErr W) (hlen:len≤8192) (hR:∀w,Below W.heap.size W w→Calls Tryz.prog 15 #[.int .i64 (N:Int),.slice a len cap] w fun e w'=>∃bs:List Int,bs.length=N*8192∧e=Ending.returned (.slice (some ⟨w.heap.size,0,none⟩) (N*8192) (N*8192))∧Bytes 5 w' w.heap.size bs∧Below w.heap.size w w'):
  Calls Tryz.prog 4 #[.int .i64 p,.slice a len cap,.agg #[.int .i64 k0,.int .i64 k1,.int .i64 k2,.int .i64 k3,.int .i64 k4]] W fun e w'=>∃q b v c d b' c' d' r' bs K,e=Ending.returned (.tuple #[.pointer (some ⟨b,0,none⟩),.pointer (some ⟨b',0,none⟩)])∧bs.length=N*8192∧Play W w' q b v c d b' c' d' r' bs (Z0 K 5)∧Apart W q b v c d b' c' d' r':=by
 have HT:=hide hT
 have HE:=hide hE
 have RN:=hide hR
 clear hT hE hR
 obtain ⟨K,hK⟩:∃K,K=keyF k0 k1 k2 k3 k4:=⟨_,rfl⟩
 replace hK:=hide hK
 obtain ⟨n,hn⟩:∃n,N*8192=n:=⟨_,rfl⟩
 have HNE:=hide (plain_size N n hn hN)
 have HN0:=hide (show 8192≤n∧n≤65536∧n%8192=0 by omega)
 rw [hn] at RN
 rw [hn]
 have hq0:0≤bits .and .i64 p 3∧bits .and .i64 p 3<4:=by rw [show bits .and .i64 p 3=p%4 from and_mask 2 (by decide) p];omega
 obtain ⟨i3,h3⟩:∃i3,bits .and .i64 p 3=i3:=⟨_,rfl⟩
 rw [h3] at hq hq0
 have hg:=hide (four_at i3.toNat N hq)
 clear hn hN hq
 go_enter Tryz.func4,Tryz.ntmps4
 go_wp2_with fail
 rw [hg.out]
 obtain ⟨w0,hw0⟩:∃w0,w0=((W.alloc (.cells #[.int .i64 k0,.int .i64 k1,.int .i64 k2,.int .i64 k3,.int .i64 k4] 28)).alloc (.cells #[.int .i64 1,.int .i64 2,.int .i64 4,.int .i64 8] 3)):=⟨_,rfl⟩
 have B0:=hide (show Below W.heap.size W w0 by rw [hw0];exact ((Below.refl _ W).alloc (Nat.le_refl _) _).alloc ((Below.refl _ W).alloc (Nat.le_refl _) _).size _)
 have G0:=hide (show w0.heap[W.heap.size]? = some (.cells #[.int .i64 k0,.int .i64 k1,.int .i64 k2,.int .i64 k3,.int .i64 k4] 28 (0,0)) by
  have e:(W.alloc (.cells #[.int .i64 k0,.int .i64 k1,.int .i64 k2,.int .i64 k3,.int .i64 k4] 28)).heap[W.heap.size]? = some (.cells #[.int .i64 k0,.int .i64 k1,.int .i64 k2,.int .i64 k3,.int .i64 k4] 28 (0,0)):=heap_alloc_new _ _
  rw [hw0]
  exact obj_nx e ((Below.refl _ _).alloc (Nat.le_refl _) _))
 rw [←hw0]
 clear hw0 hg hq0 h3
 refine (RN.out w0 B0.out).mono ?_
 rintro e w1 ⟨bs,hl,rfl,hb,b1⟩
 have KL:=hide (load_any w0.heap.size 0 n bs w1 (fun i hi=>by rw [Nat.zero_add];exact (hb.cell i hi).1) hb.2 (by have:=HN0.out;omega) (by omega) (by have:=HN0.out;omega) hb.lt ((HT.out.next B0.out).next b1).1 ((HE.out.next B0.out).next b1))
 have HL:=hide hl
 have BQ:=hide hb
 have LQ:=hide (show W.heap.size≤w0.heap.size∧w0.heap.size<w1.heap.size from ⟨B0.out.size,hb.lt⟩)
 have B1:=hide (bnext B0.out b1)
 have G1:=hide (obj_nx G0.out b1)
 rw [hl] at KL
 rw [HNE.out.1,HNE.out.2,List.drop_zero] at KL
 clear hb b1 hl G0
 go_wp2_with fail
 refine KL.out.mono ?_
 rintro e w2 ⟨h2,b2⟩
 rcases h2 with ⟨h3,_⟩|⟨_,c,rfl,d,_,_,hc,hd⟩
 ·exact absurd rfl h3
 have HN:=hide (new_is (w:=w2) (c:=c) (d:=d) (bs:=bs) ⟨hc,hd,lt_of_cell hc⟩ (by rw [HL.out];have:=HN0.out;omega) (by rw [HL.out];have:=HN0.out;omega) ((HT.out.next B1.out).next b2))
 have B2:=hide (bnext B1.out b2)
 have G2:=hide (obj_nx G1.out b2)
 have Q2:=hide (BQ.out.next b2)
 have S2:=hide b2.size
 clear hc hd b2 KL G1 BQ
 go_wp2_with fail
 refine HN.out.mono ?_
 rintro e w3 ⟨b,v,rfl,x3,⟨lb,lv⟩,b3⟩
 have KY:=hide (D24.ynew_any (some ⟨w0.heap.size,0,none⟩) n n (by have:=HN0.out;omega) w3)
 have HB3:=hide (show b<w3.heap.size∧v<w3.heap.size∧c<w3.heap.size∧d<w3.heap.size from ⟨x3.1.lt,x3.2.1.lt,x3.2.2.1.2.2,x3.2.2.1.2.1.lt⟩)
 have X3:=hide x3
 have NB:=hide (show W.heap.size≤b∧W.heap.size≤v∧w2.heap.size≤b∧w2.heap.size≤v from ⟨Nat.le_trans B2.out.size lb,Nat.le_trans B2.out.size lv,lb,lv⟩)
 have GB:=hide (show W.heap.size≠b∧W.heap.size≠v from ⟨fun e=>absurd (lt_of_block G2.out) (by omega),fun e=>absurd (lt_of_block G2.out) (by omega)⟩)
 have B3:=hide (bnext B2.out b3)
 have G3:=hide (obj_nx G2.out b3)
 have Q3:=hide (Q2.out.next b3)
 have S3:=hide b3.size
 clear x3 lb lv b3 HN G2 Q2
 go_wp2_with fail
 refine KY.out.mono ?_
 rintro e w4 ⟨b',c',d',r',rfl,y4,⟨l1,l2,l3,l4⟩,b4⟩
 have X4:=hide (show HasP w4 b v c d bs (Z0 K 0) by
  have q:=X3.out.next b4
  rw [←xp_0 K] at q
  exact q)
 have Y4:=hide (show HasD w4 b' c' d' r' ((n:Int)/8192) (.slice (some ⟨w0.heap.size,0,none⟩) n n) (Z0 K 0) by
  rw [←yp_0 K] at y4
  exact y4)
 obtain ⟨NN,hNN⟩:∃NN,NN=w3.heap.size:=⟨_,rfl⟩
 have NE:=hide (show (W.heap.size≤b∧W.heap.size≤v∧W.heap.size≤b'∧W.heap.size≤c'∧W.heap.size≤d'∧W.heap.size≤r')∧((b<NN∧v<NN∧c<NN∧d<NN)∧NN≤b'∧NN≤c'∧NN≤d'∧NN≤r') by
  have:=NB.out;have:=HB3.out;have:=B3.out.size;omega)
 have NQ:=hide (show w0.heap.size≠b∧w0.heap.size≠v∧w0.heap.size≠b'∧w0.heap.size≠c'∧w0.heap.size≠d'∧w0.heap.size≠r' by
  have:=NB.out;have:=LQ.out;have:=S2.out;have:=S3.out;omega)
 have HB':=hide (show High b' from HT.out.high NE.out.1.2.2.1)
 have GB':=hide (show W.heap.size≠b' by have:=lt_of_block G3.out;omega)
 have B4:=hide (bnext B3.out b4)
 have G4:=hide (obj_nx G3.out b4)
 have Q4:=hide (Q3.out.next b4)
 clear hNN y4 l1 l2 l3 l4 b4 KY G3 X3 B3 NB HB3 Q3 S2 S3
 go_wp2_with fail
 go_loopw [13] (fun v13 wr=>∃k:Nat,k≤5∧v13=.int .i64 k∧HasP wr b v c d bs (Z0 K k)∧HasD wr b' c' d' r' ((n:Int)/8192) (.slice (some ⟨w0.heap.size,0,none⟩) n n) (Z0 K k)∧Bytes 5 wr w0.heap.size bs∧wr.heap[W.heap.size]? = some (.cells #[.int .i64 k0,.int .i64 k1,.int .i64 k2,.int .i64 k3,.int .i64 k4] 28 (0,0))∧Below W.heap.size W wr) (fun v13 _=>5-(intOf v13).toNat)
 case atStart=>exact ⟨0,Nat.zero_le _,rfl,X4.out,Y4.out,Q4.out,G4.out,B4.out⟩
 case round=>
  clear X4 Y4 G4 B4 Q4
  obtain ⟨k,hk,rfl,h1,h2,h5,h3,h4⟩:=hrel
  have X5:=hide h1
  have Y5:=hide h2
  have G5:=hide h3
  have B5:=hide h4
  have Q5:=hide h5
  clear h1 h2 h3 h4 h5
  rcases (show k=0∨k=1∨k=2∨k=3∨k=4∨k=5 by omega) with rfl|rfl|rfl|rfl|rfl|rfl
  ·skip
   have ck:wr.cell? ⟨W.heap.size,0,none⟩=some (.int .i64 k0):=(cell_of_row wr W.heap.size 0 _ _ _ G5.out).trans rfl
   obtain ⟨ua,xa⟩:∃u,wr.cell? ⟨b,9251,none⟩=some u:=⟨_,X5.out.1.get 15 rfl (2*0) (by decide) (a:=9251) (by rw [X5.out.isB.off 15 (a:=9251) rfl]) (by decide)⟩
   obtain ⟨ub,xb⟩:∃u,wr.cell? ⟨b,9252,none⟩=some u:=⟨_,X5.out.1.get 15 rfl (2*0+1) (by decide) (a:=9252) (by rw [X5.out.isB.off 15 (a:=9251) rfl]) (by decide)⟩
   have fa:=X5.out.1.frozen 9251
   have fb:=X5.out.1.frozen 9252
   go_wp2_with fail
   go_region
   all_goals (try go_wp2)
   have KX:=hide (x_pad (k:=0) (by decide) X5.out)
   rw [show K 0=k0 by rw [hK.out];rfl] at KX
   obtain ⟨w6,hw6⟩:∃w6,w6=((wr.setCell ⟨b,9251,none⟩ (.int .i64 k0)).setCell ⟨b,9252,none⟩ (.bool false)):=⟨_,rfl⟩
   have X6:=hide (show HasP w6.drew b v c d bs (Z0 K (0+1))∧But b wr w6.drew by rw [hw6];exact ⟨KX.out.1.next (Below.refl _ _).drew,KX.out.2.drew⟩)
   rw [←hw6]
   clear xa xb fa fb ck KX hw6
   generalize w6.drew=w7 at *
   have Y6:=hide (Y5.out.only (but_one X6.out.2) (fun e=>absurd e (by have:=NE.out.2;omega)) (fun e=>absurd e (by have:=NE.out.2;omega)) (fun e=>absurd e (by have:=NE.out.2;omega)) (fun e=>absurd e (by have:=NE.out.2;omega)))
   have Q6:=hide (show Bytes 5 w7 w0.heap.size bs from ⟨X6.out.2.obj Q5.out.1 NQ.out.1,Q5.out.2⟩)
   have G6:=hide (X6.out.2.obj G5.out GB.out.1)
   have B6:=hide (B5.out.trans (X6.out.2.below NE.out.1.1 B5.out.size))
   clear X5 Y5 G5 B5 Q5
   have ck:w7.cell? ⟨W.heap.size,0,none⟩=some (.int .i64 k0):=(cell_of_row w7 W.heap.size 0 _ _ _ G6.out).trans rfl
   obtain ⟨ua,xa⟩:∃u,w7.cell? ⟨b',1061,none⟩=some u:=⟨_,Y6.out.1.get 17 rfl (2*0) (by decide) (a:=1061) (by rw [Y6.out.2.2.2.1.off 17 (a:=1061) rfl]) (by decide)⟩
   obtain ⟨ub,xb⟩:∃u,w7.cell? ⟨b',1062,none⟩=some u:=⟨_,Y6.out.1.get 17 rfl (2*0+1) (by decide) (a:=1062) (by rw [Y6.out.2.2.2.1.off 17 (a:=1061) rfl]) (by decide)⟩
   have fa:=Y6.out.1.frozen 1061
   have fb:=Y6.out.1.frozen 1062
   go_region
   all_goals (try go_wp2)
   have KX:=hide (d_pad (k:=0) (by decide) Y6.out)
   rw [show K 0=k0 by rw [hK.out];rfl] at KX
   have D7:But b' w7 (((w7.setCell ⟨b',1061,none⟩ (.int .i64 k0)).setCell ⟨b',1062,none⟩ (.bool false))).drew:=KX.out.2.drew
   refine ⟨⟨0+1,by decide,by go_num,?_,KX.out.1.next (Below.refl _ _).drew,⟨D7.obj Q6.out.1 NQ.out.2.2.1,Q6.out.2⟩,D7.obj G6.out GB'.out,B6.out.trans (D7.below NE.out.1.2.2.1 B6.out.size)⟩,by simp [intOf]⟩
   exact X6.out.1.only (but_one D7) (fun e=>absurd e (by have:=NE.out.2;omega)) (fun e=>absurd e (by have:=NE.out.2;omega)) (fun e=>absurd e (by have:=NE.out.2;omega)) (fun e=>absurd e (by have:=NE.out.2;omega)) (fun i e=>e▸HB'.out)
  ·skip
   have ck:wr.cell? ⟨W.heap.size,1,none⟩=some (.int .i64 k1):=(cell_of_row wr W.heap.size 1 _ _ _ G5.out).trans rfl
   obtain ⟨ua,xa⟩:∃u,wr.cell? ⟨b,9253,none⟩=some u:=⟨_,X5.out.1.get 15 rfl (2*1) (by decide) (a:=9253) (by rw [X5.out.isB.off 15 (a:=9251) rfl]) (by decide)⟩
   obtain ⟨ub,xb⟩:∃u,wr.cell? ⟨b,9254,none⟩=some u:=⟨_,X5.out.1.get 15 rfl (2*1+1) (by decide) (a:=9254) (by rw [X5.out.isB.off 15 (a:=9251) rfl]) (by decide)⟩
   have fa:=X5.out.1.frozen 9253
   have fb:=X5.out.1.frozen 9254
   go_wp2_with fail
   go_region
   all_goals (try go_wp2)
   have KX:=hide (x_pad (k:=1) (by decide) X5.out)
   rw [show K 1=k1 by rw [hK.out];rfl] at KX
   obtain ⟨w6,hw6⟩:∃w6,w6=((wr.setCell ⟨b,9253,none⟩ (.int .i64 k1)).setCell ⟨b,9254,none⟩ (.bool false)):=⟨_,rfl⟩
   have X6:=hide (show HasP w6.drew b v c d bs (Z0 K (1+1))∧But b wr w6.drew by rw [hw6];exact ⟨KX.out.1.next (Below.refl _ _).drew,KX.out.2.drew⟩)
   rw [←hw6]
   clear xa xb fa fb ck KX hw6
   generalize w6.drew=w7 at *
   have Y6:=hide (Y5.out.only (but_one X6.out.2) (fun e=>absurd e (by have:=NE.out.2;omega)) (fun e=>absurd e (by have:=NE.out.2;omega)) (fun e=>absurd e (by have:=NE.out.2;omega)) (fun e=>absurd e (by have:=NE.out.2;omega)))
   have Q6:=hide (show Bytes 5 w7 w0.heap.size bs from ⟨X6.out.2.obj Q5.out.1 NQ.out.1,Q5.out.2⟩)
   have G6:=hide (X6.out.2.obj G5.out GB.out.1)
   have B6:=hide (B5.out.trans (X6.out.2.below NE.out.1.1 B5.out.size))
   clear X5 Y5 G5 B5 Q5
   have ck:w7.cell? ⟨W.heap.size,1,none⟩=some (.int .i64 k1):=(cell_of_row w7 W.heap.size 1 _ _ _ G6.out).trans rfl
   obtain ⟨ua,xa⟩:∃u,w7.cell? ⟨b',1063,none⟩=some u:=⟨_,Y6.out.1.get 17 rfl (2*1) (by decide) (a:=1063) (by rw [Y6.out.2.2.2.1.off 17 (a:=1061) rfl]) (by decide)⟩
   obtain ⟨ub,xb⟩:∃u,w7.cell? ⟨b',1064,none⟩=some u:=⟨_,Y6.out.1.get 17 rfl (2*1+1) (by decide) (a:=1064) (by rw [Y6.out.2.2.2.1.off 17 (a:=1061) rfl]) (by decide)⟩
   have fa:=Y6.out.1.frozen 1063
   have fb:=Y6.out.1.frozen 1064
   go_region
   all_goals (try go_wp2)
   have KX:=hide (d_pad (k:=1) (by decide) Y6.out)
   rw [show K 1=k1 by rw [hK.out];rfl] at KX
   have D7:But b' w7 (((w7.setCell ⟨b',1063,none⟩ (.int .i64 k1)).setCell ⟨b',1064,none⟩ (.bool false))).drew:=KX.out.2.drew
   refine ⟨⟨1+1,by decide,by go_num,?_,KX.out.1.next (Below.refl _ _).drew,⟨D7.obj Q6.out.1 NQ.out.2.2.1,Q6.out.2⟩,D7.obj G6.out GB'.out,B6.out.trans (D7.below NE.out.1.2.2.1 B6.out.size)⟩,by simp [intOf]⟩
   exact X6.out.1.only (but_one D7) (fun e=>absurd e (by have:=NE.out.2;omega)) (fun e=>absurd e (by have:=NE.out.2;omega)) (fun e=>absurd e (by have:=NE.out.2;omega)) (fun e=>absurd e (by have:=NE.out.2;omega)) (fun i e=>e▸HB'.out)
  ·skip
   have ck:wr.cell? ⟨W.heap.size,2,none⟩=some (.int .i64 k2):=(cell_of_row wr W.heap.size 2 _ _ _ G5.out).trans rfl
   obtain ⟨ua,xa⟩:∃u,wr.cell? ⟨b,9255,none⟩=some u:=⟨_,X5.out.1.get 15 rfl (2*2) (by decide) (a:=9255) (by rw [X5.out.isB.off 15 (a:=9251) rfl]) (by decide)⟩
   obtain ⟨ub,xb⟩:∃u,wr.cell? ⟨b,9256,none⟩=some u:=⟨_,X5.out.1.get 15 rfl (2*2+1) (by decide) (a:=9256) (by rw [X5.out.isB.off 15 (a:=9251) rfl]) (by decide)⟩
   have fa:=X5.out.1.frozen 9255
   have fb:=X5.out.1.frozen 9256
   go_wp2_with fail
   go_region
   all_goals (try go_wp2)
   have KX:=hide (x_pad (k:=2) (by decide) X5.out)
   rw [show K 2=k2 by rw [hK.out];rfl] at KX
   obtain ⟨w6,hw6⟩:∃w6,w6=((wr.setCell ⟨b,9255,none⟩ (.int .i64 k2)).setCell ⟨b,9256,none⟩ (.bool true)):=⟨_,rfl⟩
   have X6:=hide (show HasP w6.drew b v c d bs (Z0 K (2+1))∧But b wr w6.drew by rw [hw6];exact ⟨KX.out.1.next (Below.refl _ _).drew,KX.out.2.drew⟩)
   rw [←hw6]
   clear xa xb fa fb ck KX hw6
   generalize w6.drew=w7 at *
   have Y6:=hide (Y5.out.only (but_one X6.out.2) (fun e=>absurd e (by have:=NE.out.2;omega)) (fun e=>absurd e (by have:=NE.out.2;omega)) (fun e=>absurd e (by have:=NE.out.2;omega)) (fun e=>absurd e (by have:=NE.out.2;omega)))
   have Q6:=hide (show Bytes 5 w7 w0.heap.size bs from ⟨X6.out.2.obj Q5.out.1 NQ.out.1,Q5.out.2⟩)
   have G6:=hide (X6.out.2.obj G5.out GB.out.1)
   have B6:=hide (B5.out.trans (X6.out.2.below NE.out.1.1 B5.out.size))
   clear X5 Y5 G5 B5 Q5
   have ck:w7.cell? ⟨W.heap.size,2,none⟩=some (.int .i64 k2):=(cell_of_row w7 W.heap.size 2 _ _ _ G6.out).trans rfl
   obtain ⟨ua,xa⟩:∃u,w7.cell? ⟨b',1065,none⟩=some u:=⟨_,Y6.out.1.get 17 rfl (2*2) (by decide) (a:=1065) (by rw [Y6.out.2.2.2.1.off 17 (a:=1061) rfl]) (by decide)⟩
   obtain ⟨ub,xb⟩:∃u,w7.cell? ⟨b',1066,none⟩=some u:=⟨_,Y6.out.1.get 17 rfl (2*2+1) (by decide) (a:=1066) (by rw [Y6.out.2.2.2.1.off 17 (a:=1061) rfl]) (by decide)⟩
   have fa:=Y6.out.1.frozen 1065
   have fb:=Y6.out.1.frozen 1066
   go_region
   all_goals (try go_wp2)
   have KX:=hide (d_pad (k:=2) (by decide) Y6.out)
   rw [show K 2=k2 by rw [hK.out];rfl] at KX
   have D7:But b' w7 (((w7.setCell ⟨b',1065,none⟩ (.int .i64 k2)).setCell ⟨b',1066,none⟩ (.bool true))).drew:=KX.out.2.drew
   refine ⟨⟨2+1,by decide,by go_num,?_,KX.out.1.next (Below.refl _ _).drew,⟨D7.obj Q6.out.1 NQ.out.2.2.1,Q6.out.2⟩,D7.obj G6.out GB'.out,B6.out.trans (D7.below NE.out.1.2.2.1 B6.out.size)⟩,by simp [intOf]⟩
   exact X6.out.1.only (but_one D7) (fun e=>absurd e (by have:=NE.out.2;omega)) (fun e=>absurd e (by have:=NE.out.2;omega)) (fun e=>absurd e (by have:=NE.out.2;omega)) (fun e=>absurd e (by have:=NE.out.2;omega)) (fun i e=>e▸HB'.out)
  ·skip
   have ck:wr.cell? ⟨W.heap.size,3,none⟩=some (.int .i64 k3):=(cell_of_row wr W.heap.size 3 _ _ _ G5.out).trans rfl
   obtain ⟨ua,xa⟩:∃u,wr.cell? ⟨b,9257,none⟩=some u:=⟨_,X5.out.1.get 15 rfl (2*3) (by decide) (a:=9257) (by rw [X5.out.isB.off 15 (a:=9251) rfl]) (by decide)⟩
   obtain ⟨ub,xb⟩:∃u,wr.cell? ⟨b,9258,none⟩=some u:=⟨_,X5.out.1.get 15 rfl (2*3+1) (by decide) (a:=9258) (by rw [X5.out.isB.off 15 (a:=9251) rfl]) (by decide)⟩
   have fa:=X5.out.1.frozen 9257
   have fb:=X5.out.1.frozen 9258
   go_wp2_with fail
   go_region
   all_goals (try go_wp2)
   have KX:=hide (x_pad (k:=3) (by decide) X5.out)
   rw [show K 3=k3 by rw [hK.out];rfl] at KX
   obtain ⟨w6,hw6⟩:∃w6,w6=((wr.setCell ⟨b,9257,none⟩ (.int .i64 k3)).setCell ⟨b,9258,none⟩ (.bool false)):=⟨_,rfl⟩
   have X6:=hide (show HasP w6.drew b v c d bs (Z0 K (3+1))∧But b wr w6.drew by rw [hw6];exact ⟨KX.out.1.next (Below.refl _ _).drew,KX.out.2.drew⟩)
   rw [←hw6]
   clear xa xb fa fb ck KX hw6
   generalize w6.drew=w7 at *
   have Y6:=hide (Y5.out.only (but_one X6.out.2) (fun e=>absurd e (by have:=NE.out.2;omega)) (fun e=>absurd e (by have:=NE.out.2;omega)) (fun e=>absurd e (by have:=NE.out.2;omega)) (fun e=>absurd e (by have:=NE.out.2;omega)))
   have Q6:=hide (show Bytes 5 w7 w0.heap.size bs from ⟨X6.out.2.obj Q5.out.1 NQ.out.1,Q5.out.2⟩)
   have G6:=hide (X6.out.2.obj G5.out GB.out.1)
   have B6:=hide (B5.out.trans (X6.out.2.below NE.out.1.1 B5.out.size))
   clear X5 Y5 G5 B5 Q5
   have ck:w7.cell? ⟨W.heap.size,3,none⟩=some (.int .i64 k3):=(cell_of_row w7 W.heap.size 3 _ _ _ G6.out).trans rfl
   obtain ⟨ua,xa⟩:∃u,w7.cell? ⟨b',1067,none⟩=some u:=⟨_,Y6.out.1.get 17 rfl (2*3) (by decide) (a:=1067) (by rw [Y6.out.2.2.2.1.off 17 (a:=1061) rfl]) (by decide)⟩
   obtain ⟨ub,xb⟩:∃u,w7.cell? ⟨b',1068,none⟩=some u:=⟨_,Y6.out.1.get 17 rfl (2*3+1) (by decide) (a:=1068) (by rw [Y6.out.2.2.2.1.off 17 (a:=1061) rfl]) (by decide)⟩
   have fa:=Y6.out.1.frozen 1067
   have fb:=Y6.out.1.frozen 1068
   go_region
   all_goals (try go_wp2)
   have KX:=hide (d_pad (k:=3) (by decide) Y6.out)
   rw [show K 3=k3 by rw [hK.out];rfl] at KX
   have D7:But b' w7 (((w7.setCell ⟨b',1067,none⟩ (.int .i64 k3)).setCell ⟨b',1068,none⟩ (.bool false))).drew:=KX.out.2.drew
   refine ⟨⟨3+1,by decide,by go_num,?_,KX.out.1.next (Below.refl _ _).drew,⟨D7.obj Q6.out.1 NQ.out.2.2.1,Q6.out.2⟩,D7.obj G6.out GB'.out,B6.out.trans (D7.below NE.out.1.2.2.1 B6.out.size)⟩,by simp [intOf]⟩
   exact X6.out.1.only (but_one D7) (fun e=>absurd e (by have:=NE.out.2;omega)) (fun e=>absurd e (by have:=NE.out.2;omega)) (fun e=>absurd e (by have:=NE.out.2;omega)) (fun e=>absurd e (by have:=NE.out.2;omega)) (fun i e=>e▸HB'.out)
  ·skip
   have ck:wr.cell? ⟨W.heap.size,4,none⟩=some (.int .i64 k4):=(cell_of_row wr W.heap.size 4 _ _ _ G5.out).trans rfl
   obtain ⟨ua,xa⟩:∃u,wr.cell? ⟨b,9259,none⟩=some u:=⟨_,X5.out.1.get 15 rfl (2*4) (by decide) (a:=9259) (by rw [X5.out.isB.off 15 (a:=9251) rfl]) (by decide)⟩
   obtain ⟨ub,xb⟩:∃u,wr.cell? ⟨b,9260,none⟩=some u:=⟨_,X5.out.1.get 15 rfl (2*4+1) (by decide) (a:=9260) (by rw [X5.out.isB.off 15 (a:=9251) rfl]) (by decide)⟩
   have fa:=X5.out.1.frozen 9259
   have fb:=X5.out.1.frozen 9260
   go_wp2_with fail
   go_region
   all_goals (try go_wp2)
   have KX:=hide (x_pad (k:=4) (by decide) X5.out)
   rw [show K 4=k4 by rw [hK.out];rfl] at KX
   obtain ⟨w6,hw6⟩:∃w6,w6=((wr.setCell ⟨b,9259,none⟩ (.int .i64 k4)).setCell ⟨b,9260,none⟩ (.bool false)):=⟨_,rfl⟩
   have X6:=hide (show HasP w6.drew b v c d bs (Z0 K (4+1))∧But b wr w6.drew by rw [hw6];exact ⟨KX.out.1.next (Below.refl _ _).drew,KX.out.2.drew⟩)
   rw [←hw6]
   clear xa xb fa fb ck KX hw6
   generalize w6.drew=w7 at *
   have Y6:=hide (Y5.out.only (but_one X6.out.2) (fun e=>absurd e (by have:=NE.out.2;omega)) (fun e=>absurd e (by have:=NE.out.2;omega)) (fun e=>absurd e (by have:=NE.out.2;omega)) (fun e=>absurd e (by have:=NE.out.2;omega)))
   have Q6:=hide (show Bytes 5 w7 w0.heap.size bs from ⟨X6.out.2.obj Q5.out.1 NQ.out.1,Q5.out.2⟩)
   have G6:=hide (X6.out.2.obj G5.out GB.out.1)
   have B6:=hide (B5.out.trans (X6.out.2.below NE.out.1.1 B5.out.size))
   clear X5 Y5 G5 B5 Q5
   have ck:w7.cell? ⟨W.heap.size,4,none⟩=some (.int .i64 k4):=(cell_of_row w7 W.heap.size 4 _ _ _ G6.out).trans rfl
   obtain ⟨ua,xa⟩:∃u,w7.cell? ⟨b',1069,none⟩=some u:=⟨_,Y6.out.1.get 17 rfl (2*4) (by decide) (a:=1069) (by rw [Y6.out.2.2.2.1.off 17 (a:=1061) rfl]) (by decide)⟩
   obtain ⟨ub,xb⟩:∃u,w7.cell? ⟨b',1070,none⟩=some u:=⟨_,Y6.out.1.get 17 rfl (2*4+1) (by decide) (a:=1070) (by rw [Y6.out.2.2.2.1.off 17 (a:=1061) rfl]) (by decide)⟩
   have fa:=Y6.out.1.frozen 1069
   have fb:=Y6.out.1.frozen 1070
   go_region
   all_goals (try go_wp2)
   have KX:=hide (d_pad (k:=4) (by decide) Y6.out)
   rw [show K 4=k4 by rw [hK.out];rfl] at KX
   have D7:But b' w7 (((w7.setCell ⟨b',1069,none⟩ (.int .i64 k4)).setCell ⟨b',1070,none⟩ (.bool false))).drew:=KX.out.2.drew
   refine ⟨⟨4+1,by decide,by go_num,?_,KX.out.1.next (Below.refl _ _).drew,⟨D7.obj Q6.out.1 NQ.out.2.2.1,Q6.out.2⟩,D7.obj G6.out GB'.out,B6.out.trans (D7.below NE.out.1.2.2.1 B6.out.size)⟩,by simp [intOf]⟩
   exact X6.out.1.only (but_one D7) (fun e=>absurd e (by have:=NE.out.2;omega)) (fun e=>absurd e (by have:=NE.out.2;omega)) (fun e=>absurd e (by have:=NE.out.2;omega)) (fun e=>absurd e (by have:=NE.out.2;omega)) (fun i e=>e▸HB'.out)
  ·set_option maxRecDepth 20000 in
   go_wp2_with fail
   go_ret2
   have e8:((n:Int)/8192)=((bs.length/8192:Nat):Int):=by rw [HL.out];omega
   have y6:=Y5.out
   rw [e8,←set_0 K 5,←HL.out] at y6
   exact ⟨w0.heap.size,b,v,c,d,b',c',d',r',bs,K,rfl,HL.out,⟨X5.out,y6,Q5.out,gz_0 K 5,B5.out⟩,⟨⟨LQ.out.1,NE.out.1⟩,NQ.out,⟨NN,NE.out.2⟩⟩⟩
set_option maxHeartbeats 2000000 in
theorem made_long (k0 k1 k2 k3 k4 p:Int) (N:Nat) (hN:N=1∨N=2∨N=4∨N=8) (hq:((bits .and .i64 p 3).toNat=0∧N=1)∨((bits .and .i64 p 3).toNat=1∧N=2)∨((bits .and .i64 p 3).toNat=2∧N=4)∨((bits .and .i64 p 3).toNat=3∧N=8)) (a:Option Addr) (len cap:Nat) {W:World} (hT:Tabs W) (hE:HasErr W) (hlen:8192<len) (hcap:len≤cap) (hcap2:cap≤maxLen) (hR:∀w,Below W.heap.size W w→Calls Tryz.prog 15 #[.int .i64 (N:Int),.slice a 8192 cap] w fun e w'=>∃bs:List Int,bs.length=N*8192∧e=Ending.returned (.slice (some ⟨w.heap.size,0,none⟩) (N*8192) (N*8192))∧Bytes 5 w' w.heap.size bs∧Below w.heap.size w w'):
  Calls Tryz.prog 4 #[.int .i64 p,.slice a len cap,.agg #[.int .i64 k0,.int .i64 k1,.int .i64 k2,.int .i64 k3,.int .i64 k4]] W fun e w'=>∃q b v c d b' c' d' r' bs K,e=Ending.returned (.tuple #[.pointer (some ⟨b,0,none⟩),.pointer (some ⟨b',0,none⟩)])∧bs.length=N*8192∧Play W w' q b v c d b' c' d' r' bs (Z0 K 5)∧Apart W q b v c d b' c' d' r':=by
 have HT:=hide hT
 have HE:=hide hE
 have RN:=hide hR
 clear hT hE hR
 obtain ⟨K,hK⟩:∃K,K=keyF k0 k1 k2 k3 k4:=⟨_,rfl⟩
 replace hK:=hide hK
 obtain ⟨n,hn⟩:∃n,N*8192=n:=⟨_,rfl⟩
 have HNE:=hide (plain_size N n hn hN)
 have HN0:=hide (show 8192≤n∧n≤65536∧n%8192=0 by omega)
 rw [hn] at RN
 rw [hn]
 have hq0:0≤bits .and .i64 p 3∧bits .and .i64 p 3<4:=by rw [show bits .and .i64 p 3=p%4 from and_mask 2 (by decide) p];omega
 obtain ⟨i3,h3⟩:∃i3,bits .and .i64 p 3=i3:=⟨_,rfl⟩
 rw [h3] at hq hq0
 have hg:=hide (four_at i3.toNat N hq)
 clear hn hN hq
 go_enter Tryz.func4,Tryz.ntmps4
 go_wp2_with fail
 rw [hg.out]
 obtain ⟨w0,hw0⟩:∃w0,w0=((W.alloc (.cells #[.int .i64 k0,.int .i64 k1,.int .i64 k2,.int .i64 k3,.int .i64 k4] 28)).alloc (.cells #[.int .i64 1,.int .i64 2,.int .i64 4,.int .i64 8] 3)):=⟨_,rfl⟩
 have B0:=hide (show Below W.heap.size W w0 by rw [hw0];exact ((Below.refl _ W).alloc (Nat.le_refl _) _).alloc ((Below.refl _ W).alloc (Nat.le_refl _) _).size _)
 have G0:=hide (show w0.heap[W.heap.size]? = some (.cells #[.int .i64 k0,.int .i64 k1,.int .i64 k2,.int .i64 k3,.int .i64 k4] 28 (0,0)) by
  have e:(W.alloc (.cells #[.int .i64 k0,.int .i64 k1,.int .i64 k2,.int .i64 k3,.int .i64 k4] 28)).heap[W.heap.size]? = some (.cells #[.int .i64 k0,.int .i64 k1,.int .i64 k2,.int .i64 k3,.int .i64 k4] 28 (0,0)):=heap_alloc_new _ _
  rw [hw0]
  exact obj_nx e ((Below.refl _ _).alloc (Nat.le_refl _) _))
 rw [←hw0]
 clear hw0 hg hq0 h3
 refine (RN.out w0 B0.out).mono ?_
 rintro e w1 ⟨bs,hl,rfl,hb,b1⟩
 have KL:=hide (load_any w0.heap.size 0 n bs w1 (fun i hi=>by rw [Nat.zero_add];exact (hb.cell i hi).1) hb.2 (by have:=HN0.out;omega) (by omega) (by have:=HN0.out;omega) hb.lt ((HT.out.next B0.out).next b1).1 ((HE.out.next B0.out).next b1))
 have HL:=hide hl
 have BQ:=hide hb
 have LQ:=hide (show W.heap.size≤w0.heap.size∧w0.heap.size<w1.heap.size from ⟨B0.out.size,hb.lt⟩)
 have B1:=hide (bnext B0.out b1)
 have G1:=hide (obj_nx G0.out b1)
 rw [hl] at KL
 rw [HNE.out.1,HNE.out.2,List.drop_zero] at KL
 clear hb b1 hl G0
 go_wp2_with fail
 refine KL.out.mono ?_
 rintro e w2 ⟨h2,b2⟩
 rcases h2 with ⟨h3,_⟩|⟨_,c,rfl,d,_,_,hc,hd⟩
 ·exact absurd rfl h3
 have HN:=hide (new_is (w:=w2) (c:=c) (d:=d) (bs:=bs) ⟨hc,hd,lt_of_cell hc⟩ (by rw [HL.out];have:=HN0.out;omega) (by rw [HL.out];have:=HN0.out;omega) ((HT.out.next B1.out).next b2))
 have B2:=hide (bnext B1.out b2)
 have G2:=hide (obj_nx G1.out b2)
 have Q2:=hide (BQ.out.next b2)
 have S2:=hide b2.size
 clear hc hd b2 KL G1 BQ
 go_wp2_with fail
 refine HN.out.mono ?_
 rintro e w3 ⟨b,v,rfl,x3,⟨lb,lv⟩,b3⟩
 have KY:=hide (D24.ynew_any (some ⟨w0.heap.size,0,none⟩) n n (by have:=HN0.out;omega) w3)
 have HB3:=hide (show b<w3.heap.size∧v<w3.heap.size∧c<w3.heap.size∧d<w3.heap.size from ⟨x3.1.lt,x3.2.1.lt,x3.2.2.1.2.2,x3.2.2.1.2.1.lt⟩)
 have X3:=hide x3
 have NB:=hide (show W.heap.size≤b∧W.heap.size≤v∧w2.heap.size≤b∧w2.heap.size≤v from ⟨Nat.le_trans B2.out.size lb,Nat.le_trans B2.out.size lv,lb,lv⟩)
 have GB:=hide (show W.heap.size≠b∧W.heap.size≠v from ⟨fun e=>absurd (lt_of_block G2.out) (by omega),fun e=>absurd (lt_of_block G2.out) (by omega)⟩)
 have B3:=hide (bnext B2.out b3)
 have G3:=hide (obj_nx G2.out b3)
 have Q3:=hide (Q2.out.next b3)
 have S3:=hide b3.size
 clear x3 lb lv b3 HN G2 Q2
 go_wp2_with fail
 refine KY.out.mono ?_
 rintro e w4 ⟨b',c',d',r',rfl,y4,⟨l1,l2,l3,l4⟩,b4⟩
 have X4:=hide (show HasP w4 b v c d bs (Z0 K 0) by
  have q:=X3.out.next b4
  rw [←xp_0 K] at q
  exact q)
 have Y4:=hide (show HasD w4 b' c' d' r' ((n:Int)/8192) (.slice (some ⟨w0.heap.size,0,none⟩) n n) (Z0 K 0) by
  rw [←yp_0 K] at y4
  exact y4)
 obtain ⟨NN,hNN⟩:∃NN,NN=w3.heap.size:=⟨_,rfl⟩
 have NE:=hide (show (W.heap.size≤b∧W.heap.size≤v∧W.heap.size≤b'∧W.heap.size≤c'∧W.heap.size≤d'∧W.heap.size≤r')∧((b<NN∧v<NN∧c<NN∧d<NN)∧NN≤b'∧NN≤c'∧NN≤d'∧NN≤r') by
  have:=NB.out;have:=HB3.out;have:=B3.out.size;omega)
 have NQ:=hide (show w0.heap.size≠b∧w0.heap.size≠v∧w0.heap.size≠b'∧w0.heap.size≠c'∧w0.heap.size≠d'∧w0.heap.size≠r' by
  have:=NB.out;have:=LQ.out;have:=S2.out;have:=S3.out;omega)
 have HB':=hide (show High b' from HT.out.high NE.out.1.2.2.1)
 have GB':=hide (show W.heap.size≠b' by have:=lt_of_block G3.out;omega)
 have B4:=hide (bnext B3.out b4)
 have G4:=hide (obj_nx G3.out b4)
 have Q4:=hide (Q3.out.next b4)
 clear hNN y4 l1 l2 l3 l4 b4 KY G3 X3 B3 NB HB3 Q3 S2 S3
 go_wp2_with fail
 go_loopw [13] (fun v13 wr=>∃k:Nat,k≤5∧v13=.int .i64 k∧HasP wr b v c d bs (Z0 K k)∧HasD wr b' c' d' r' ((n:Int)/8192) (.slice (some ⟨w0.heap.size,0,none⟩) n n) (Z0 K k)∧Bytes 5 wr w0.heap.size bs∧wr.heap[W.heap.size]? = some (.cells #[.int .i64 k0,.int .i64 k1,.int .i64 k2,.int .i64 k3,.int .i64 k4] 28 (0,0))∧Below W.heap.size W wr) (fun v13 _=>5-(intOf v13).toNat)
 case atStart=>exact ⟨0,Nat.zero_le _,rfl,X4.out,Y4.out,Q4.out,G4.out,B4.out⟩
 case round=>
  clear X4 Y4 G4 B4 Q4
  obtain ⟨k,hk,rfl,h1,h2,h5,h3,h4⟩:=hrel
  have X5:=hide h1
  have Y5:=hide h2
  have G5:=hide h3
  have B5:=hide h4
  have Q5:=hide h5
  clear h1 h2 h3 h4 h5
  rcases (show k=0∨k=1∨k=2∨k=3∨k=4∨k=5 by omega) with rfl|rfl|rfl|rfl|rfl|rfl
  ·skip
   have ck:wr.cell? ⟨W.heap.size,0,none⟩=some (.int .i64 k0):=(cell_of_row wr W.heap.size 0 _ _ _ G5.out).trans rfl
   obtain ⟨ua,xa⟩:∃u,wr.cell? ⟨b,9251,none⟩=some u:=⟨_,X5.out.1.get 15 rfl (2*0) (by decide) (a:=9251) (by rw [X5.out.isB.off 15 (a:=9251) rfl]) (by decide)⟩
   obtain ⟨ub,xb⟩:∃u,wr.cell? ⟨b,9252,none⟩=some u:=⟨_,X5.out.1.get 15 rfl (2*0+1) (by decide) (a:=9252) (by rw [X5.out.isB.off 15 (a:=9251) rfl]) (by decide)⟩
   have fa:=X5.out.1.frozen 9251
   have fb:=X5.out.1.frozen 9252
   go_wp2_with fail
   go_region
   all_goals (try go_wp2)
   have KX:=hide (x_pad (k:=0) (by decide) X5.out)
   rw [show K 0=k0 by rw [hK.out];rfl] at KX
   obtain ⟨w6,hw6⟩:∃w6,w6=((wr.setCell ⟨b,9251,none⟩ (.int .i64 k0)).setCell ⟨b,9252,none⟩ (.bool false)):=⟨_,rfl⟩
   have X6:=hide (show HasP w6.drew b v c d bs (Z0 K (0+1))∧But b wr w6.drew by rw [hw6];exact ⟨KX.out.1.next (Below.refl _ _).drew,KX.out.2.drew⟩)
   rw [←hw6]
   clear xa xb fa fb ck KX hw6
   generalize w6.drew=w7 at *
   have Y6:=hide (Y5.out.only (but_one X6.out.2) (fun e=>absurd e (by have:=NE.out.2;omega)) (fun e=>absurd e (by have:=NE.out.2;omega)) (fun e=>absurd e (by have:=NE.out.2;omega)) (fun e=>absurd e (by have:=NE.out.2;omega)))
   have Q6:=hide (show Bytes 5 w7 w0.heap.size bs from ⟨X6.out.2.obj Q5.out.1 NQ.out.1,Q5.out.2⟩)
   have G6:=hide (X6.out.2.obj G5.out GB.out.1)
   have B6:=hide (B5.out.trans (X6.out.2.below NE.out.1.1 B5.out.size))
   clear X5 Y5 G5 B5 Q5
   have ck:w7.cell? ⟨W.heap.size,0,none⟩=some (.int .i64 k0):=(cell_of_row w7 W.heap.size 0 _ _ _ G6.out).trans rfl
   obtain ⟨ua,xa⟩:∃u,w7.cell? ⟨b',1061,none⟩=some u:=⟨_,Y6.out.1.get 17 rfl (2*0) (by decide) (a:=1061) (by rw [Y6.out.2.2.2.1.off 17 (a:=1061) rfl]) (by decide)⟩
   obtain ⟨ub,xb⟩:∃u,w7.cell? ⟨b',1062,none⟩=some u:=⟨_,Y6.out.1.get 17 rfl (2*0+1) (by decide) (a:=1062) (by rw [Y6.out.2.2.2.1.off 17 (a:=1061) rfl]) (by decide)⟩
   have fa:=Y6.out.1.frozen 1061
   have fb:=Y6.out.1.frozen 1062
   go_region
   all_goals (try go_wp2)
   have KX:=hide (d_pad (k:=0) (by decide) Y6.out)
   rw [show K 0=k0 by rw [hK.out];rfl] at KX
   have D7:But b' w7 (((w7.setCell ⟨b',1061,none⟩ (.int .i64 k0)).setCell ⟨b',1062,none⟩ (.bool false))).drew:=KX.out.2.drew
   refine ⟨⟨0+1,by decide,by go_num,?_,KX.out.1.next (Below.refl _ _).drew,⟨D7.obj Q6.out.1 NQ.out.2.2.1,Q6.out.2⟩,D7.obj G6.out GB'.out,B6.out.trans (D7.below NE.out.1.2.2.1 B6.out.size)⟩,by simp [intOf]⟩
   exact X6.out.1.only (but_one D7) (fun e=>absurd e (by have:=NE.out.2;omega)) (fun e=>absurd e (by have:=NE.out.2;omega)) (fun e=>absurd e (by have:=NE.out.2;omega)) (fun e=>absurd e (by have:=NE.out.2;omega)) (fun i e=>e▸HB'.out)
  ·skip
   have ck:wr.cell? ⟨W.heap.size,1,none⟩=some (.int .i64 k1):=(cell_of_row wr W.heap.size 1 _ _ _ G5.out).trans rfl
   obtain ⟨ua,xa⟩:∃u,wr.cell? ⟨b,9253,none⟩=some u:=⟨_,X5.out.1.get 15 rfl (2*1) (by decide) (a:=9253) (by rw [X5.out.isB.off 15 (a:=9251) rfl]) (by decide)⟩
   obtain ⟨ub,xb⟩:∃u,wr.cell? ⟨b,9254,none⟩=some u:=⟨_,X5.out.1.get 15 rfl (2*1+1) (by decide) (a:=9254) (by rw [X5.out.isB.off 15 (a:=9251) rfl]) (by decide)⟩
   have fa:=X5.out.1.frozen 9253
   have fb:=X5.out.1.frozen 9254
   go_wp2_with fail
   go_region
   all_goals (try go_wp2)
   have KX:=hide (x_pad (k:=1) (by decide) X5.out)
   rw [show K 1=k1 by rw [hK.out];rfl] at KX
   obtain ⟨w6,hw6⟩:∃w6,w6=((wr.setCell ⟨b,9253,none⟩ (.int .i64 k1)).setCell ⟨b,9254,none⟩ (.bool false)):=⟨_,rfl⟩
   have X6:=hide (show HasP w6.drew b v c d bs (Z0 K (1+1))∧But b wr w6.drew by rw [hw6];exact ⟨KX.out.1.next (Below.refl _ _).drew,KX.out.2.drew⟩)
   rw [←hw6]
   clear xa xb fa fb ck KX hw6
   generalize w6.drew=w7 at *
   have Y6:=hide (Y5.out.only (but_one X6.out.2) (fun e=>absurd e (by have:=NE.out.2;omega)) (fun e=>absurd e (by have:=NE.out.2;omega)) (fun e=>absurd e (by have:=NE.out.2;omega)) (fun e=>absurd e (by have:=NE.out.2;omega)))
   have Q6:=hide (show Bytes 5 w7 w0.heap.size bs from ⟨X6.out.2.obj Q5.out.1 NQ.out.1,Q5.out.2⟩)
   have G6:=hide (X6.out.2.obj G5.out GB.out.1)
   have B6:=hide (B5.out.trans (X6.out.2.below NE.out.1.1 B5.out.size))
   clear X5 Y5 G5 B5 Q5
   have ck:w7.cell? ⟨W.heap.size,1,none⟩=some (.int .i64 k1):=(cell_of_row w7 W.heap.size 1 _ _ _ G6.out).trans rfl
   obtain ⟨ua,xa⟩:∃u,w7.cell? ⟨b',1063,none⟩=some u:=⟨_,Y6.out.1.get 17 rfl (2*1) (by decide) (a:=1063) (by rw [Y6.out.2.2.2.1.off 17 (a:=1061) rfl]) (by decide)⟩
   obtain ⟨ub,xb⟩:∃u,w7.cell? ⟨b',1064,none⟩=some u:=⟨_,Y6.out.1.get 17 rfl (2*1+1) (by decide) (a:=1064) (by rw [Y6.out.2.2.2.1.off 17 (a:=1061) rfl]) (by decide)⟩
   have fa:=Y6.out.1.frozen 1063
   have fb:=Y6.out.1.frozen 1064
   go_region
   all_goals (try go_wp2)
   have KX:=hide (d_pad (k:=1) (by decide) Y6.out)
   rw [show K 1=k1 by rw [hK.out];rfl] at KX
   have D7:But b' w7 (((w7.setCell ⟨b',1063,none⟩ (.int .i64 k1)).setCell ⟨b',1064,none⟩ (.bool false))).drew:=KX.out.2.drew
   refine ⟨⟨1+1,by decide,by go_num,?_,KX.out.1.next (Below.refl _ _).drew,⟨D7.obj Q6.out.1 NQ.out.2.2.1,Q6.out.2⟩,D7.obj G6.out GB'.out,B6.out.trans (D7.below NE.out.1.2.2.1 B6.out.size)⟩,by simp [intOf]⟩
   exact X6.out.1.only (but_one D7) (fun e=>absurd e (by have:=NE.out.2;omega)) (fun e=>absurd e (by have:=NE.out.2;omega)) (fun e=>absurd e (by have:=NE.out.2;omega)) (fun e=>absurd e (by have:=NE.out.2;omega)) (fun i e=>e▸HB'.out)
  ·skip
   have ck:wr.cell? ⟨W.heap.size,2,none⟩=some (.int .i64 k2):=(cell_of_row wr W.heap.size 2 _ _ _ G5.out).trans rfl
   obtain ⟨ua,xa⟩:∃u,wr.cell? ⟨b,9255,none⟩=some u:=⟨_,X5.out.1.get 15 rfl (2*2) (by decide) (a:=9255) (by rw [X5.out.isB.off 15 (a:=9251) rfl]) (by decide)⟩
   obtain ⟨ub,xb⟩:∃u,wr.cell? ⟨b,9256,none⟩=some u:=⟨_,X5.out.1.get 15 rfl (2*2+1) (by decide) (a:=9256) (by rw [X5.out.isB.off 15 (a:=9251) rfl]) (by decide)⟩
   have fa:=X5.out.1.frozen 9255
   have fb:=X5.out.1.frozen 9256
   go_wp2_with fail
   go_region
   all_goals (try go_wp2)
   have KX:=hide (x_pad (k:=2) (by decide) X5.out)
   rw [show K 2=k2 by rw [hK.out];rfl] at KX
   obtain ⟨w6,hw6⟩:∃w6,w6=((wr.setCell ⟨b,9255,none⟩ (.int .i64 k2)).setCell ⟨b,9256,none⟩ (.bool true)):=⟨_,rfl⟩
   have X6:=hide (show HasP w6.drew b v c d bs (Z0 K (2+1))∧But b wr w6.drew by rw [hw6];exact ⟨KX.out.1.next (Below.refl _ _).drew,KX.out.2.drew⟩)
   rw [←hw6]
   clear xa xb fa fb ck KX hw6
   generalize w6.drew=w7 at *
   have Y6:=hide (Y5.out.only (but_one X6.out.2) (fun e=>absurd e (by have:=NE.out.2;omega)) (fun e=>absurd e (by have:=NE.out.2;omega)) (fun e=>absurd e (by have:=NE.out.2;omega)) (fun e=>absurd e (by have:=NE.out.2;omega)))
   have Q6:=hide (show Bytes 5 w7 w0.heap.size bs from ⟨X6.out.2.obj Q5.out.1 NQ.out.1,Q5.out.2⟩)
   have G6:=hide (X6.out.2.obj G5.out GB.out.1)
   have B6:=hide (B5.out.trans (X6.out.2.below NE.out.1.1 B5.out.size))
   clear X5 Y5 G5 B5 Q5
   have ck:w7.cell? ⟨W.heap.size,2,none⟩=some (.int .i64 k2):=(cell_of_row w7 W.heap.size 2 _ _ _ G6.out).trans rfl
   obtain ⟨ua,xa⟩:∃u,w7.cell? ⟨b',1065,none⟩=some u:=⟨_,Y6.out.1.get 17 rfl (2*2) (by decide) (a:=1065) (by rw [Y6.out.2.2.2.1.off 17 (a:=1061) rfl]) (by decide)⟩
   obtain ⟨ub,xb⟩:∃u,w7.cell? ⟨b',1066,none⟩=some u:=⟨_,Y6.out.1.get 17 rfl (2*2+1) (by decide) (a:=1066) (by rw [Y6.out.2.2.2.1.off 17 (a:=1061) rfl]) (by decide)⟩
   have fa:=Y6.out.1.frozen 1065
   have fb:=Y6.out.1.frozen 1066
   go_region
   all_goals (try go_wp2)
   have KX:=hide (d_pad (k:=2) (by decide) Y6.out)
   rw [show K 2=k2 by rw [hK.out];rfl] at KX
   have D7:But b' w7 (((w7.setCell ⟨b',1065,none⟩ (.int .i64 k2)).setCell ⟨b',1066,none⟩ (.bool true))).drew:=KX.out.2.drew
   refine ⟨⟨2+1,by decide,by go_num,?_,KX.out.1.next (Below.refl _ _).drew,⟨D7.obj Q6.out.1 NQ.out.2.2.1,Q6.out.2⟩,D7.obj G6.out GB'.out,B6.out.trans (D7.below NE.out.1.2.2.1 B6.out.size)⟩,by simp [intOf]⟩
   exact X6.out.1.only (but_one D7) (fun e=>absurd e (by have:=NE.out.2;omega)) (fun e=>absurd e (by have:=NE.out.2;omega)) (fun e=>absurd e (by have:=NE.out.2;omega)) (fun e=>absurd e (by have:=NE.out.2;omega)) (fun i e=>e▸HB'.out)
  ·skip
   have ck:wr.cell? ⟨W.heap.size,3,none⟩=some (.int .i64 k3):=(cell_of_row wr W.heap.size 3 _ _ _ G5.out).trans rfl
   obtain ⟨ua,xa⟩:∃u,wr.cell? ⟨b,9257,none⟩=some u:=⟨_,X5.out.1.get 15 rfl (2*3) (by decide) (a:=9257) (by rw [X5.out.isB.off 15 (a:=9251) rfl]) (by decide)⟩
   obtain ⟨ub,xb⟩:∃u,wr.cell? ⟨b,9258,none⟩=some u:=⟨_,X5.out.1.get 15 rfl (2*3+1) (by decide) (a:=9258) (by rw [X5.out.isB.off 15 (a:=9251) rfl]) (by decide)⟩
   have fa:=X5.out.1.frozen 9257
   have fb:=X5.out.1.frozen 9258
   go_wp2_with fail
   go_region
   all_goals (try go_wp2)
   have KX:=hide (x_pad (k:=3) (by decide) X5.out)
   rw [show K 3=k3 by rw [hK.out];rfl] at KX
   obtain ⟨w6,hw6⟩:∃w6,w6=((wr.setCell ⟨b,9257,none⟩ (.int .i64 k3)).setCell ⟨b,9258,none⟩ (.bool false)):=⟨_,rfl⟩
   have X6:=hide (show HasP w6.drew b v c d bs (Z0 K (3+1))∧But b wr w6.drew by rw [hw6];exact ⟨KX.out.1.next (Below.refl _ _).drew,KX.out.2.drew⟩)
   rw [←hw6]
   clear xa xb fa fb ck KX hw6
   generalize w6.drew=w7 at *
   have Y6:=hide (Y5.out.only (but_one X6.out.2) (fun e=>absurd e (by have:=NE.out.2;omega)) (fun e=>absurd e (by have:=NE.out.2;omega)) (fun e=>absurd e (by have:=NE.out.2;omega)) (fun e=>absurd e (by have:=NE.out.2;omega)))
   have Q6:=hide (show Bytes 5 w7 w0.heap.size bs from ⟨X6.out.2.obj Q5.out.1 NQ.out.1,Q5.out.2⟩)
   have G6:=hide (X6.out.2.obj G5.out GB.out.1)
   have B6:=hide (B5.out.trans (X6.out.2.below NE.out.1.1 B5.out.size))
   clear X5 Y5 G5 B5 Q5
   have ck:w7.cell? ⟨W.heap.size,3,none⟩=some (.int .i64 k3):=(cell_of_row w7 W.heap.size 3 _ _ _ G6.out).trans rfl
   obtain ⟨ua,xa⟩:∃u,w7.cell? ⟨b',1067,none⟩=some u:=⟨_,Y6.out.1.get 17 rfl (2*3) (by decide) (a:=1067) (by rw [Y6.out.2.2.2.1.off 17 (a:=1061) rfl]) (by decide)⟩
   obtain ⟨ub,xb⟩:∃u,w7.cell? ⟨b',1068,none⟩=some u:=⟨_,Y6.out.1.get 17 rfl (2*3+1) (by decide) (a:=1068) (by rw [Y6.out.2.2.2.1.off 17 (a:=1061) rfl]) (by decide)⟩
   have fa:=Y6.out.1.frozen 1067
   have fb:=Y6.out.1.frozen 1068
   go_region
   all_goals (try go_wp2)
   have KX:=hide (d_pad (k:=3) (by decide) Y6.out)
   rw [show K 3=k3 by rw [hK.out];rfl] at KX
   have D7:But b' w7 (((w7.setCell ⟨b',1067,none⟩ (.int .i64 k3)).setCell ⟨b',1068,none⟩ (.bool false))).drew:=KX.out.2.drew
   refine ⟨⟨3+1,by decide,by go_num,?_,KX.out.1.next (Below.refl _ _).drew,⟨D7.obj Q6.out.1 NQ.out.2.2.1,Q6.out.2⟩,D7.obj G6.out GB'.out,B6.out.trans (D7.below NE.out.1.2.2.1 B6.out.size)⟩,by simp [intOf]⟩
   exact X6.out.1.only (but_one D7) (fun e=>absurd e (by have:=NE.out.2;omega)) (fun e=>absurd e (by have:=NE.out.2;omega)) (fun e=>absurd e (by have:=NE.out.2;omega)) (fun e=>absurd e (by have:=NE.out.2;omega)) (fun i e=>e▸HB'.out)
  ·skip
   have ck:wr.cell? ⟨W.heap.size,4,none⟩=some (.int .i64 k4):=(cell_of_row wr W.heap.size 4 _ _ _ G5.out).trans rfl
   obtain ⟨ua,xa⟩:∃u,wr.cell? ⟨b,9259,none⟩=some u:=⟨_,X5.out.1.get 15 rfl (2*4) (by decide) (a:=9259) (by rw [X5.out.isB.off 15 (a:=9251) rfl]) (by decide)⟩
   obtain ⟨ub,xb⟩:∃u,wr.cell? ⟨b,9260,none⟩=some u:=⟨_,X5.out.1.get 15 rfl (2*4+1) (by decide) (a:=9260) (by rw [X5.out.isB.off 15 (a:=9251) rfl]) (by decide)⟩
   have fa:=X5.out.1.frozen 9259
   have fb:=X5.out.1.frozen 9260
   go_wp2_with fail
   go_region
   all_goals (try go_wp2)
   have KX:=hide (x_pad (k:=4) (by decide) X5.out)
   rw [show K 4=k4 by rw [hK.out];rfl] at KX
   obtain ⟨w6,hw6⟩:∃w6,w6=((wr.setCell ⟨b,9259,none⟩ (.int .i64 k4)).setCell ⟨b,9260,none⟩ (.bool false)):=⟨_,rfl⟩
   have X6:=hide (show HasP w6.drew b v c d bs (Z0 K (4+1))∧But b wr w6.drew by rw [hw6];exact ⟨KX.out.1.next (Below.refl _ _).drew,KX.out.2.drew⟩)
   rw [←hw6]
   clear xa xb fa fb ck KX hw6
   generalize w6.drew=w7 at *
   have Y6:=hide (Y5.out.only (but_one X6.out.2) (fun e=>absurd e (by have:=NE.out.2;omega)) (fun e=>absurd e (by have:=NE.out.2;omega)) (fun e=>absurd e (by have:=NE.out.2;omega)) (fun e=>absurd e (by have:=NE.out.2;omega)))
   have Q6:=hide (show Bytes 5 w7 w0.heap.size bs from ⟨X6.out.2.obj Q5.out.1 NQ.out.1,Q5.out.2⟩)
   have G6:=hide (X6.out.2.obj G5.out GB.out.1)
   have B6:=hide (B5.out.trans (X6.out.2.below NE.out.1.1 B5.out.size))
   clear X5 Y5 G5 B5 Q5
   have ck:w7.cell? ⟨W.heap.size,4,none⟩=some (.int .i64 k4):=(cell_of_row w7 W.heap.size 4 _ _ _ G6.out).trans rfl
   obtain ⟨ua,xa⟩:∃u,w7.cell? ⟨b',1069,none⟩=some u:=⟨_,Y6.out.1.get 17 rfl (2*4) (by decide) (a:=1069) (by rw [Y6.out.2.2.2.1.off 17 (a:=1061) rfl]) (by decide)⟩
   obtain ⟨ub,xb⟩:∃u,w7.cell? ⟨b',1070,none⟩=some u:=⟨_,Y6.out.1.get 17 rfl (2*4+1) (by decide) (a:=1070) (by rw [Y6.out.2.2.2.1.off 17 (a:=1061) rfl]) (by decide)⟩
   have fa:=Y6.out.1.frozen 1069
   have fb:=Y6.out.1.frozen 1070
   go_region
   all_goals (try go_wp2)
   have KX:=hide (d_pad (k:=4) (by decide) Y6.out)
   rw [show K 4=k4 by rw [hK.out];rfl] at KX
   have D7:But b' w7 (((w7.setCell ⟨b',1069,none⟩ (.int .i64 k4)).setCell ⟨b',1070,none⟩ (.bool false))).drew:=KX.out.2.drew
   refine ⟨⟨4+1,by decide,by go_num,?_,KX.out.1.next (Below.refl _ _).drew,⟨D7.obj Q6.out.1 NQ.out.2.2.1,Q6.out.2⟩,D7.obj G6.out GB'.out,B6.out.trans (D7.below NE.out.1.2.2.1 B6.out.size)⟩,by simp [intOf]⟩
   exact X6.out.1.only (but_one D7) (fun e=>absurd e (by have:=NE.out.2;omega)) (fun e=>absurd e (by have:=NE.out.2;omega)) (fun e=>absurd e (by have:=NE.out.2;omega)) (fun e=>absurd e (by have:=NE.out.2;omega)) (fun i e=>e▸HB'.out)
  ·set_option maxRecDepth 20000 in
   go_wp2_with fail
   go_ret2
   have e8:((n:Int)/8192)=((bs.length/8192:Nat):Int):=by rw [HL.out];omega
   have y6:=Y5.out
   rw [e8,←set_0 K 5,←HL.out] at y6
   exact ⟨w0.heap.size,b,v,c,d,b',c',d',r',bs,K,rfl,HL.out,⟨X5.out,y6,Q5.out,gz_0 K 5,B5.out⟩,⟨⟨LQ.out.1,NE.out.1⟩,NQ.out,⟨NN,NE.out.2⟩⟩⟩
theorem made_any (k0 k1 k2 k3 k4 p:Int) (a:Option Addr) (len cap:Nat) (zs:List Int) {W:World} (hT:Tabs W) (hE:HasErr W) (hz:IsRow .u8 W a len cap zs):
  ∃N:Nat,(N=1∨N=2∨N=4∨N=8)∧Calls Tryz.prog 4 #[.int .i64 p,.slice a len cap,.agg #[.int .i64 k0,.int .i64 k1,.int .i64 k2,.int .i64 k3,.int .i64 k4]] W fun e w'=>∃q b v c d b' c' d' r' bs K,e=Ending.returned (.tuple #[.pointer (some ⟨b,0,none⟩),.pointer (some ⟨b',0,none⟩)])∧bs.length=N*8192∧Play W w' q b v c d b' c' d' r' bs (Z0 K 5)∧Apart W q b v c d b' c' d' r':=by
 have e4:bits .and .i64 p 3=p%4:=and_mask 2 (by decide) p
 obtain ⟨N,hN,hq⟩:∃N:Nat,(N=1∨N=2∨N=4∨N=8)∧(((bits .and .i64 p 3).toNat=0∧N=1)∨((bits .and .i64 p 3).toNat=1∧N=2)∨((bits .and .i64 p 3).toNat=2∧N=4)∨((bits .and .i64 p 3).toNat=3∧N=8)):=by
  rw [e4]
  rcases (show p%4=0∨p%4=1∨p%4=2∨p%4=3 by omega) with h|h|h|h
  ·exact ⟨1,by decide,by rw [h];decide⟩
  ·exact ⟨2,by decide,by rw [h];decide⟩
  ·exact ⟨4,by decide,by rw [h];decide⟩
  ·exact ⟨8,by decide,by rw [h];decide⟩
 refine ⟨N,hN,?_⟩
 rcases Nat.eq_zero_or_pos len with h0|h0
 ·subst h0
  exact made_short k0 k1 k2 k3 k4 p N hN hq a 0 cap hT hE (by decide) (fun w _=>rom_empty N (by omega) a cap w)
 ·obtain ⟨g,off,rfl,hg,hlc,hcm,hcell⟩:=hz.cells h0
  by_cases h8:len≤8192
  ·exact made_short k0 k1 k2 k3 k4 p N hN hq _ len cap hT hE h8 (fun w bw=>rom_row N (by omega) (by omega) g off len cap zs w h0 h8 (Nat.lt_of_lt_of_le hg bw.size) (fun i hi=>⟨(bw.cell (p:=⟨g,off+i,none⟩) hg).trans (hcell i hi).1,(hcell i hi).2⟩))
  ·exact made_long k0 k1 k2 k3 k4 p N hN hq _ len cap hT hE (by omega) hlc hcm (fun w bw=>rom_row N (by omega) (by omega) g off 8192 cap zs w (by decide) (by decide) (Nat.lt_of_lt_of_le hg bw.size) (fun i hi=>⟨(bw.cell (p:=⟨g,off+i,none⟩) hg).trans (hcell i (by omega)).1,(hcell i (by omega)).2⟩))
end Go.Proofs.YtnllcknfmciebaaGreatDoor
