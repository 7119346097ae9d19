/- The law's maker of a program: law25.put's walk. -/
import Derived.Test.YtoijhhbiknhlnaaGreatDoorCpuSpeedsJ47
namespace Go.Proofs.YtoijhhbiknhlnaaGreatDoor.L25
set_option maxHeartbeats 2000000
set_option maxRecDepth 20000
open B4 C3 D24 G6 I11 J23 L24 M5 P22 R15 T10 V12 W13
open Go.RowKit
set_option linter.unusedVariables false
theorem ztq {C D:Nat→Int} {sc sd:Option Addr} {lc ld cc cd:Nat} {w:World} (hT:Tabs w) (hE:HasErr w) (hC:SlB w sc lc C) (hD:SlB w sd ld D) (hlc:lc≤200) (hld:ld≤256):
  Calls Tryz.prog 16 #[.slice sc lc cc,.slice sd ld cd] w fun e w'=>∃b v c d bs,e=Ending.returned (.tuple #[.pointer (some ⟨b,0,none⟩),.agg #[.int .i64 0,.int .i64 0,.int .i64 0,.int .i64 255,.int .i64 0,.int .i64 9216,.bool false,.int .i64 0]])∧bs.length=16384∧HasP w' b v c d bs (putZ C D lc ld)∧(w.heap.size≤b∧w.heap.size≤v)∧Below w.heap.size w w':=by
 have HT:=hide hT;have HE:=hide hE;have HC:=hide hC;have HD:=hide hD;have NC:=hide hlc;have ND:=hide hld;clear hT hE hC hD hlc hld;have MN:=hide (fun w1 t1 e1=>zlY 0 0 0 0 0 (w:=w1) t1 e1);go_enter Tryz.func16,Tryz.ntmps16;go_wp2_with fail;obtain ⟨w0,hw0⟩:∃w0,w0=w.alloc (.cells #[.int .i64 0,.int .i64 0,.int .i64 0,.int .i64 0,.int .i64 0,.int .i64 0,.bool false,.int .i64 0] 58):=⟨_,rfl⟩
 have B0:=hide (show Below w.heap.size w w0 by rw [hw0];exact (Below.refl _ w).alloc (Nat.le_refl _) _);have G0:=hide (show w0.heap[w.heap.size]? = some (.cells #[.int .i64 0,.int .i64 0,.int .i64 0,.int .i64 0,.int .i64 0,.int .i64 0,.bool false,.int .i64 0] 58 (0,0)) by rw [hw0];exact heap_alloc_new _ _);rw [←hw0];clear hw0;refine (MN.out w0 (HT.out.next B0.out) (HE.out.next B0.out)).mono ?_;rintro e w1 ⟨b,v,c,d,b',c',d',r',P,sl,bs,rfl,hl,hx,hy,⟨lb,lv,_⟩,hn,b1⟩;have HLB:=hide hl;have X1:=hide (show HasP w1 b v c d bs (putZ C D 0 0) by rw [zkh];exact hx);have LB:=hide (show w.heap.size<b∧w.heap.size<v from ⟨Nat.lt_of_lt_of_le (lt_of_block G0.out) lb,Nat.lt_of_lt_of_le (lt_of_block G0.out) lv⟩);have G1:=hide (zes G0.out b1);have B1:=hide (zar B0.out b1);clear hl hx hy lb lv hn b1 G0 MN;go_wp2_with fail;go_loopw [8] (fun v8 wr=>∃k:Nat,k≤lc∧v8=.int .i64 k∧HasP wr b v c d bs (putZ C D k 0)∧wr.heap[w.heap.size]? = some (.cells #[.int .i64 0,.int .i64 0,.int .i64 0,.int .i64 0,.int .i64 0,.int .i64 0,.bool false,.int .i64 0] 58 (0,0))∧Below w.heap.size w wr) (fun v8 _=>lc-(intOf v8).toNat)
 case atStart=>exact ⟨0,Nat.zero_le _,rfl,X1.out,G1.out,B1.out⟩
 case round=>
  clear X1 G1 B1;obtain ⟨k,hk,rfl,h1,h2,h3⟩:=hrel;have X2:=hide h1;have G2:=hide h2;have B2:=hide h3;clear h1 h2 h3
  by_cases hlt:k<lc
  ·obtain ⟨q,o,rfl,cq,lq,c0,c1⟩:=HC.out.2 k (by have:=NC.out;omega);have ck:wr.cell? ⟨q,o+k,none⟩=some (.int .u8 (C k)):=(B2.out.cell lq).trans cq;have HK:Hid (1024+k<8192):=hide (by have:=NC.out;omega);have k1:(k:Int)<(lc:Int):=by have:=NC.out;omega
   have k2:(k:Int)<200:=by have:=NC.out;omega
   have k3:k<lc:=by have:=NC.out;omega
   have HL:Hid (q<w.heap.size):=hide lq;have CQ:=hide cq;clear cq lq ck;go_wp2_with fail;refine zai (zbl [.pointer (some ⟨b,0,none⟩),.int .i64 (k:Int),.int .i64 ((1024+k:Nat):Int),.slice (some ⟨q,o,none⟩) lc cc,.int .i64 (k:Int),.pointer (some ⟨q,o+k,none⟩),.int .u8 (C k),.pointer (some ⟨b,0,none⟩),.pointer (some ⟨b,283,none⟩),.pointer (some ⟨b,283+(1024+k),none⟩),undef]) (fun dd ww=>(stgs [(fun x=>HasP x b v c d bs (putZ C D k 0)∧x.heap[w.heap.size]? = some (.cells #[.int .i64 0,.int .i64 0,.int .i64 0,.int .i64 0,.int .i64 0,.int .i64 0,.bool false,.int .i64 0] 58 (0,0))∧Below w.heap.size w x),(fun x=>HasP x b v c d bs (putZ C D (k+1) 0)∧x.heap[w.heap.size]? = some (.cells #[.int .i64 0,.int .i64 0,.int .i64 0,.int .i64 0,.int .i64 0,.int .i64 0,.bool false,.int .i64 0] 58 (0,0))∧Below w.heap.size w x)]) (cntD [10] dd) ww) _ (fun u=>by simp only [zat,Act.put,List.setIfInBounds_toArray,List.set_cons_succ,List.set_cons_zero,Nat.reduceAdd];rfl) (by kernel_rfl) (by kernel_rfl) (by kernel_rfl) (fun dn hd=>zaz hd (⟨X2.out.next (Below.refl _ wr).drew,zes G2.out (Below.refl _ wr).drew,B2.out.drew⟩)) ?_ ?_
   ·repeat' first|refine zas (fun u dn x hi hc hk hs=>?_) ?_|exact zax
    ·go_wp2_with fail;exact zab _ rfl rfl (zaa rfl hs)
    ·go_wp2_with fail;exact zab _ rfl rfl (zaa rfl hs)
    ·obtain ⟨⟨(h1:u 1=.int .i64 (k:Int)),t1⟩,_⟩:=hk;simp only [h1];clear h1;have d10:=zag hc hi 10 60 (by kernel_rfl);have hn:cntD [10] dn=0:=by simp only [cntD,d10];rfl
     have hs1:=zae hn hs
     (have e1:wrap64 (1024+(k:Int))=((1024+k:Nat):Int):=by unfold wrap64;omega);(go_wp2_with fail);(try rw [e1])
     exact zab _ rfl rfl (zaa rfl hs)
    ·go_wp2_with fail;exact zab _ rfl rfl (zaa rfl hs)
    ·go_wp2_with fail;exact zab _ rfl rfl (zaa rfl hs)
    ·obtain ⟨⟨(h3:u 3=.slice (some ⟨q,o,none⟩) lc cc),t3⟩,⟨(h4:u 4=.int .i64 (k:Int)),t4⟩,_⟩:=hk;simp only [h3,h4];clear h3 h4;go_wp2_with fail;exact zab _ rfl rfl (zaa rfl hs)
    ·obtain ⟨⟨(h5:u 5=.pointer (some ⟨q,o+k,none⟩)),t5⟩,_⟩:=hk;simp only [h5];clear h5;have d10:=zag hc hi 10 60 (by kernel_rfl);have hn:cntD [10] dn=0:=by simp only [cntD,d10];rfl
     have hs1:=zae hn hs;have q:=(hs1.2.2.cell HL.out).trans CQ.out;go_wp2_with fail;exact zab _ rfl rfl (zaa rfl hs)
    ·obtain ⟨⟨(h0:u 0=.pointer (some ⟨b,0,none⟩)),t0⟩,_⟩:=hk;simp only [h0];clear h0;go_wp2_with fail;exact zab _ rfl rfl (zaa rfl hs)
    ·obtain ⟨⟨(h7:u 7=.pointer (some ⟨b,0,none⟩)),t7⟩,_⟩:=hk;simp only [h7];clear h7;go_wp2_with fail;exact zab _ rfl rfl (zaa rfl hs)
    ·obtain ⟨⟨(h8:u 8=.pointer (some ⟨b,283,none⟩)),t8⟩,⟨(h2:u 2=.int .i64 ((1024+k:Nat):Int)),t2⟩,⟨(h0:u 0=.pointer (some ⟨b,0,none⟩)),t0⟩,⟨(h1:u 1=.int .i64 (k:Int)),t1⟩,_,⟨(h3:u 3=.slice (some ⟨q,o,none⟩) lc cc),t3⟩,⟨(h4:u 4=.int .i64 (k:Int)),t4⟩,⟨(h5:u 5=.pointer (some ⟨q,o+k,none⟩)),t5⟩,⟨(h6:u 6=.int .u8 (C k)),t6⟩,_⟩:=hk;simp only [h8,h2];clear h8 h2 h0 h1 h3 h4 h5 h6;go_wp2_with fail;exact zab _ rfl rfl (zaa rfl hs)
    ·obtain ⟨⟨(h9:u 9=.pointer (some ⟨b,283+(1024+k),none⟩)),t9⟩,⟨(h6:u 6=.int .u8 (C k)),t6⟩,⟨(h0:u 0=.pointer (some ⟨b,0,none⟩)),t0⟩,⟨(h1:u 1=.int .i64 (k:Int)),t1⟩,⟨(h2:u 2=.int .i64 ((1024+k:Nat):Int)),t2⟩,⟨(h3:u 3=.slice (some ⟨q,o,none⟩) lc cc),t3⟩,⟨(h4:u 4=.int .i64 (k:Int)),t4⟩,⟨(h5:u 5=.pointer (some ⟨q,o+k,none⟩)),t5⟩,_,_⟩:=hk;simp only [h9,h6];clear h9 h6 h0 h1 h2 h3 h4 h5;have d10:=hi;have hn:cntD [10] dn=0:=by simp only [cntD,d10];rfl
     have hs1:=zae hn hs;have hn2:cntD [10] (updD dn 10)=1:=by show (if updD dn 10 10=true then 1 else 0)+0=1;rw [zav];rfl
     have HN2:=hide hn2;clear hn hn2;have q:=(fun h=>(p_ram (And.left h) _ HK.out (C k)).2.2.1) hs1;have z:=(fun h=>(p_ram (And.left h) _ HK.out (C k)).2.2.2) hs1;have H2:=hide ((fun h:(fun x=>HasP x b v c d bs (putZ C D k 0)∧x.heap[w.heap.size]? = some (.cells #[.int .i64 0,.int .i64 0,.int .i64 0,.int .i64 0,.int .i64 0,.int .i64 0,.bool false,.int .i64 0] 58 (0,0))∧Below w.heap.size w x) x=>show (fun x=>HasP x b v c d bs (putZ C D (k+1) 0)∧x.heap[w.heap.size]? = some (.cells #[.int .i64 0,.int .i64 0,.int .i64 0,.int .i64 0,.int .i64 0,.int .i64 0,.bool false,.int .i64 0] 58 (0,0))∧Below w.heap.size w x) (x.setCell ⟨b,283+(1024+k),none⟩ (.int .u8 (C k))) from ⟨zkf C D k▸(p_ram h.1 _ HK.out (C k)).1,(p_ram h.1 _ HK.out (C k)).2.1.obj h.2.1 (Nat.ne_of_lt LB.out.1),h.2.2.trans ((p_ram h.1 _ HK.out (C k)).2.1.below (Nat.le_of_lt LB.out.1) h.2.2.size)⟩) hs1);clear hs hs1;go_wp2_with fail;exact zab _ rfl rfl (zaE HN2.out H2.out)
   rintro u dn x hall hs hv;clear hv;have hn:cntD [10] dn=1:=by show (if dn 10=true then 1 else 0)+0=1;rw [hall 10 (by decide)];rfl
   have hs:=zae hn hs;clear hn hall;have hs':(fun x=>HasP x b v c d bs (putZ C D (k+1) 0)∧x.heap[w.heap.size]? = some (.cells #[.int .i64 0,.int .i64 0,.int .i64 0,.int .i64 0,.int .i64 0,.int .i64 0,.bool false,.int .i64 0] 58 (0,0))∧Below w.heap.size w x) x:=hs;have HS:=hide hs';clear hs hs' X2 G2 B2;go_wp2_with fail;go_roundw
   case rel=>exact ⟨k+1,by omega,by go_num,HS.out.1,HS.out.2.1,HS.out.2.2⟩
   case measure=>simp [intOf];omega
  ·obtain rfl:lc=k:=by omega
   have k1:¬((lc:Int)<(lc:Int)):=by omega
   go_wp2_with fail;go_loopw [9] (fun v9 wr=>∃j:Nat,j≤ld∧v9=.int .i64 j∧HasP wr b v c d bs (putZ C D lc j)∧wr.heap[w.heap.size]? = some (.cells #[.int .i64 0,.int .i64 0,.int .i64 0,.int .i64 0,.int .i64 0,.int .i64 0,.bool false,.int .i64 0] 58 (0,0))∧Below w.heap.size w wr) (fun v9 _=>ld-(intOf v9).toNat)
   case atStart=>exact ⟨0,Nat.zero_le _,rfl,X2.out,G2.out,B2.out⟩
   case round=>
    clear X2 G2 B2;obtain ⟨j,hj,rfl,h1,h2,h3⟩:=hrel;have X2:=hide h1;have G2:=hide h2;have B2:=hide h3;clear h1 h2 h3
    by_cases hjm:j<ld
    ·obtain ⟨q,o,rfl,cq,lq,c0,c1⟩:=HD.out.2 j (by have:=ND.out;omega);have HK:Hid (j<8192):=hide (by have:=ND.out;omega);have k1:(j:Int)<(ld:Int):=by have:=ND.out;omega
     have k2:(j:Int)<256:=by have:=ND.out;omega
     have k3:j<ld:=by have:=ND.out;omega
     have HL:Hid (q<w.heap.size):=hide lq;have CQ:=hide cq;clear cq lq;go_wp2_with fail;refine zai (zbl [.pointer (some ⟨b,0,none⟩),.int .i64 (j:Int),.slice (some ⟨q,o,none⟩) ld cd,.int .i64 (j:Int),.pointer (some ⟨q,o+j,none⟩),.int .u8 (D j),.pointer (some ⟨b,0,none⟩),.pointer (some ⟨b,283,none⟩),.pointer (some ⟨b,283+j,none⟩),undef]) (fun dd ww=>(stgs [(fun x=>HasP x b v c d bs (putZ C D lc j)∧x.heap[w.heap.size]? = some (.cells #[.int .i64 0,.int .i64 0,.int .i64 0,.int .i64 0,.int .i64 0,.int .i64 0,.bool false,.int .i64 0] 58 (0,0))∧Below w.heap.size w x),(fun x=>HasP x b v c d bs (putZ C D lc (j+1))∧x.heap[w.heap.size]? = some (.cells #[.int .i64 0,.int .i64 0,.int .i64 0,.int .i64 0,.int .i64 0,.int .i64 0,.bool false,.int .i64 0] 58 (0,0))∧Below w.heap.size w x)]) (cntD [9] dd) ww) _ (fun u=>by simp only [zat,Act.put,List.setIfInBounds_toArray,List.set_cons_succ,List.set_cons_zero,Nat.reduceAdd];rfl) (by kernel_rfl) (by kernel_rfl) (by kernel_rfl) (fun dn hd=>zaz hd (⟨X2.out.next (Below.refl _ wr).drew,zes G2.out (Below.refl _ wr).drew,B2.out.drew⟩)) ?_ ?_
     ·repeat' first|refine zas (fun u dn x hi hc hk hs=>?_) ?_|exact zax
      ·go_wp2_with fail;exact zab _ rfl rfl (zaa rfl hs)
      ·go_wp2_with fail;exact zab _ rfl rfl (zaa rfl hs)
      ·go_wp2_with fail;exact zab _ rfl rfl (zaa rfl hs)
      ·go_wp2_with fail;exact zab _ rfl rfl (zaa rfl hs)
      ·obtain ⟨⟨(h2:u 2=.slice (some ⟨q,o,none⟩) ld cd),t2⟩,⟨(h3:u 3=.int .i64 (j:Int)),t3⟩,_⟩:=hk;simp only [h2,h3];clear h2 h3;go_wp2_with fail;exact zab _ rfl rfl (zaa rfl hs)
      ·obtain ⟨⟨(h4:u 4=.pointer (some ⟨q,o+j,none⟩)),t4⟩,_⟩:=hk;simp only [h4];clear h4;have d9:=zag hc hi 9 60 (by kernel_rfl);have hn:cntD [9] dn=0:=by simp only [cntD,d9];rfl
       have hs1:=zae hn hs;have q:=(hs1.2.2.cell HL.out).trans CQ.out;go_wp2_with fail;exact zab _ rfl rfl (zaa rfl hs)
      ·obtain ⟨⟨(h0:u 0=.pointer (some ⟨b,0,none⟩)),t0⟩,_⟩:=hk;simp only [h0];clear h0;go_wp2_with fail;exact zab _ rfl rfl (zaa rfl hs)
      ·obtain ⟨⟨(h6:u 6=.pointer (some ⟨b,0,none⟩)),t6⟩,_⟩:=hk;simp only [h6];clear h6;go_wp2_with fail;exact zab _ rfl rfl (zaa rfl hs)
      ·obtain ⟨⟨(h7:u 7=.pointer (some ⟨b,283,none⟩)),t7⟩,⟨(h1:u 1=.int .i64 (j:Int)),t1⟩,⟨(h0:u 0=.pointer (some ⟨b,0,none⟩)),t0⟩,_,⟨(h2:u 2=.slice (some ⟨q,o,none⟩) ld cd),t2⟩,⟨(h3:u 3=.int .i64 (j:Int)),t3⟩,⟨(h4:u 4=.pointer (some ⟨q,o+j,none⟩)),t4⟩,⟨(h5:u 5=.int .u8 (D j)),t5⟩,_⟩:=hk;simp only [h7,h1];clear h7 h1 h0 h2 h3 h4 h5;go_wp2_with fail;exact zab _ rfl rfl (zaa rfl hs)
      ·obtain ⟨⟨(h8:u 8=.pointer (some ⟨b,283+j,none⟩)),t8⟩,⟨(h5:u 5=.int .u8 (D j)),t5⟩,⟨(h0:u 0=.pointer (some ⟨b,0,none⟩)),t0⟩,⟨(h1:u 1=.int .i64 (j:Int)),t1⟩,⟨(h2:u 2=.slice (some ⟨q,o,none⟩) ld cd),t2⟩,⟨(h3:u 3=.int .i64 (j:Int)),t3⟩,⟨(h4:u 4=.pointer (some ⟨q,o+j,none⟩)),t4⟩,_,_⟩:=hk;simp only [h8,h5];clear h8 h5 h0 h1 h2 h3 h4;have d9:=hi;have hn:cntD [9] dn=0:=by simp only [cntD,d9];rfl
       have hs1:=zae hn hs;have hn2:cntD [9] (updD dn 9)=1:=by show (if updD dn 9 9=true then 1 else 0)+0=1;rw [zav];rfl
       have HN2:=hide hn2;clear hn hn2;have q:=(fun h=>(p_ram (And.left h) _ HK.out (D j)).2.2.1) hs1;have z:=(fun h=>(p_ram (And.left h) _ HK.out (D j)).2.2.2) hs1;have H2:=hide ((fun h:(fun x=>HasP x b v c d bs (putZ C D lc j)∧x.heap[w.heap.size]? = some (.cells #[.int .i64 0,.int .i64 0,.int .i64 0,.int .i64 0,.int .i64 0,.int .i64 0,.bool false,.int .i64 0] 58 (0,0))∧Below w.heap.size w x) x=>show (fun x=>HasP x b v c d bs (putZ C D lc (j+1))∧x.heap[w.heap.size]? = some (.cells #[.int .i64 0,.int .i64 0,.int .i64 0,.int .i64 0,.int .i64 0,.int .i64 0,.bool false,.int .i64 0] 58 (0,0))∧Below w.heap.size w x) (x.setCell ⟨b,283+j,none⟩ (.int .u8 (D j))) from ⟨zkg C D lc j▸(p_ram h.1 _ HK.out (D j)).1,(p_ram h.1 _ HK.out (D j)).2.1.obj h.2.1 (Nat.ne_of_lt LB.out.1),h.2.2.trans ((p_ram h.1 _ HK.out (D j)).2.1.below (Nat.le_of_lt LB.out.1) h.2.2.size)⟩) hs1);clear hs hs1;go_wp2_with fail;exact zab _ rfl rfl (zaE HN2.out H2.out)
     rintro u dn x hall hs hv;clear hv;have hn:cntD [9] dn=1:=by show (if dn 9=true then 1 else 0)+0=1;rw [hall 9 (by decide)];rfl
     have hs:=zae hn hs;clear hn hall;have hs':(fun x=>HasP x b v c d bs (putZ C D lc (j+1))∧x.heap[w.heap.size]? = some (.cells #[.int .i64 0,.int .i64 0,.int .i64 0,.int .i64 0,.int .i64 0,.int .i64 0,.bool false,.int .i64 0] 58 (0,0))∧Below w.heap.size w x) x:=hs;have HS:=hide hs';clear hs hs' X2 G2 B2;go_wp2_with fail;go_roundw
     case rel=>exact ⟨j+1,by omega,by go_num,HS.out.1,HS.out.2.1,HS.out.2.2⟩
     case measure=>simp [intOf];omega
    ·obtain rfl:ld=j:=by omega
     have X3:=X2;have G3:=G2;have B3:=B2;clear X2 G2 B2;have k1:¬((ld:Int)<(ld:Int)):=by omega
     go_wp2_with (first|(refine wpList_store_row rfl 58 (.tmp 5) (.tmp 59) rfl w.heap.size _ rfl rfl 58 _ G3.out (by kernel_rfl) rfl (by kernel_rfl) ?_));have x4:HasP (wr.setRow w.heap.size #[.int .i64 0,.int .i64 0,.int .i64 0,.int .i64 255,.int .i64 0,.int .i64 9216,.bool false,.int .i64 0]) b v c d bs (putZ C D lc ld):=by
      have k4:OnlyE (fun i=>i=w.heap.size) wr (wr.setRow w.heap.size #[.int .i64 0,.int .i64 0,.int .i64 0,.int .i64 255,.int .i64 0,.int .i64 9216,.bool false,.int .i64 0]):=⟨rfl,rfl,rfl,by simp [World.setRow],fun i hi hE=>setRow_other wr w.heap.size i _ hE⟩
      have cc:wr.cell? ⟨w.heap.size,0,none⟩=some (.int .i64 0):=(cell_of_row wr w.heap.size 0 _ _ _ G3.out).trans rfl;refine X3.out.only k4 (fun e=>absurd e (by have:=LB.out;omega)) (fun e=>absurd e (by have:=LB.out;omega)) (fun e=>?_) (fun e=>?_) (fun i e=>e▸HT.out.high (Nat.le_refl _))
      ·have q1:=X3.out.2.2.1.1;rw [show c=w.heap.size from e] at q1;exact nomatch (Option.some.inj (q1.symm.trans cc))
      ·have q1:=X3.out.2.2.1.2.1.1;rw [show d=w.heap.size from e] at q1;have q2:=Option.some.inj (q1.symm.trans G3.out)
       injection q2 with _ q3 _
       exact absurd q3 (by decide)
     exact bodyPost_ret (zbJ rfl _ _ w.heap.size _ _ _ _ rfl (setRow_heap _ _ _ _ _ _ G3.out) Tryz.underlying58 rfl (by kernel_rfl)) rfl ⟨b,rfl,v,c,d,bs,HLB.out,x4,⟨Nat.le_of_lt LB.out.1,Nat.le_of_lt LB.out.2⟩,below_setRow B3.out (Nat.le_refl _) _⟩
end Go.Proofs.YtoijhhbiknhlnaaGreatDoor.L25
