/- Texts put together. -/
import Derived.Test.YtoijhhbiknhlnaaGreatDoorCpuSpeedsJ12
import Derived.Test.YtoijhhbiknhlnaaGreatDoorCpuSpeedsJ01
import Derived.Laws.CopyOwn
import Derived.Test.YtoijhhbiknhlnaaGreatDoorCpuSpeedsJ11
import Derived.Test.YtoijhhbiknhlnaaGreatDoorCpuSpeedsJ08
import Derived.Test.YtoijhhbiknhlnaaGreatDoorCpuSpeedsJ09
namespace Go.Proofs.YtoijhhbiknhlnaaGreatDoor.C3
set_option maxHeartbeats 1600000
set_option maxRecDepth 20000
open Go.RowKit
set_option linter.unusedVariables false
def HasErr (w:World):Prop:=w.cell? ⟨4,0,none⟩=some (.iface 250 (.agg #[.pointer (some ⟨8,174,none⟩)]))
theorem HasErr.next {w w':World} (h:HasErr w) (b:Below w.heap.size w w'):HasErr w':=(b.cell (zii h)).trans h
def zbz (n:Nat):Nat:=if n%8192=512 then 512 else 0
def zdr (m:Nat):Int:=if m=0 then 10 else if m%8192≠0 then 11 else if 320<m/8192 then 12 else if zdh ((m/8192:Nat):Int)=true then 0 else 13
theorem zyb (g off n cap:Nat) (w:World) (hn:n<4611686018427387904) (hc:n≤cap) (hm:cap≤9223372036854775807):
  Calls Tryz.prog 115 #[.slice (some ⟨g,off,none⟩) n cap] w fun e w'=>e=.returned (.slice (some ⟨g,if cap=512∧n=512 then off else off+zbz n,none⟩) (n-zbz n) (cap-zbz n))∧w'=w:=by
 by_cases h:n%8192=512
 ·have e:zbz n=512:=by unfold zbz;rw [if_pos h]
  rw [e];have h2:(n:Int)%8192=512:=by omega
  have h3:512≤n:=by omega
  clear h e
  by_cases hcc:cap=512
  ·have hn5:n=512:=by omega
   subst hcc;subst hn5;rw [if_pos ⟨rfl,rfl⟩];go_enter Tryz.func115,Tryz.ntmps115;go_wp2;go_ret;exact ⟨rfl,rfl⟩
  ·rw [if_neg (by omega)];go_enter Tryz.func115,Tryz.ntmps115;go_wp2;go_ret;exact ⟨rfl,rfl⟩
 ·have e:zbz n=0:=by unfold zbz;rw [if_neg h]
  rw [e,if_neg (by omega)];have h2:¬(n:Int)%8192=512:=by omega
  clear h e;go_enter Tryz.func115,Tryz.ntmps115;go_wp2;go_ret;exact ⟨rfl,rfl⟩
theorem zdJ (c m:Int) (p:Addr) (w:World) (hp:w.cell? p=some (.int .i64 m)):
  Calls Tryz.prog 159 #[.int .i64 c,.pointer (some p)] w fun e w'=>e=.returned (.iface 216 (.pointer (some ⟨w.heap.size,0,none⟩)))∧w'=w.alloc (.cells #[.int .i64 m,.iface 124 (.int .i64 c)] 218):=by
 go_enter Tryz.func159,Tryz.ntmps159;go_wp2;go_ret;exact ⟨rfl,rfl⟩
theorem err_1 {m:Nat} (h:m=0):zdr m=10:=by unfold zdr;rw [if_pos h]
theorem err_2 {m:Nat} (h:¬m=0) (h2:m%8192≠0):zdr m=11:=by unfold zdr;rw [if_neg h,if_pos h2]
theorem err_3 {m:Nat} (h:¬m=0) (h2:¬m%8192≠0) (h3:320<m/8192):zdr m=12:=by unfold zdr;rw [if_neg h,if_neg h2,if_pos h3]
theorem err_4 {m:Nat} (h:¬m=0) (h2:¬m%8192≠0) (h3:¬320<m/8192) (h4:zdh ((m/8192:Nat):Int)=true):zdr m=0:=by unfold zdr;rw [if_neg h,if_neg h2,if_neg h3,if_pos h4]
theorem err_5 {m:Nat} (h:¬m=0) (h2:¬m%8192≠0) (h3:¬320<m/8192) (h4:¬zdh ((m/8192:Nat):Int)=true):zdr m=13:=by unfold zdr;rw [if_neg h,if_neg h2,if_neg h3,if_neg h4]
theorem zoL (m:Nat) (w:World) (hm:m<4611686018427387904) (hT:HasTab w):
  Calls Tryz.prog 117 #[.int .i64 (m:Int)] w fun e w'=>((zdr m=0∧e=.returned .nilIface)∨(zdr m≠0∧∃b,e=.returned (.iface 216 (.pointer (some ⟨b,0,none⟩)))∧w'.cell? ⟨b,1,none⟩=some (.iface 124 (.int .i64 (zdr m)))))∧Below w.heap.size w w':=by
 have b0:Below w.heap.size w (w.alloc (.cells #[.int .i64 (m:Int)] 3)):=(Below.refl _ w).alloc (Nat.le_refl _) _;have cc:=zgL (((m/8192:Nat):Int)) (w.alloc (.cells #[.int .i64 (m:Int)] 3)) (hT.next b0);obtain ⟨k,hk⟩:∃k:Int,k=((m/8192:Nat):Int):=⟨_,rfl⟩
 have hd:(m:Int)/8192=k:=by omega
 rw [←hk] at cc;obtain ⟨q,hq⟩:∃q,q=zdh k:=⟨_,rfl⟩
 rw [←hq] at cc;have CC:=hide cc;have B0:=hide b0;have HK:=hide hk;have HQ:=hide hq;have hc0:(w.alloc (.cells #[.int .i64 (m:Int)] 3)).cell? ⟨w.heap.size,0,none⟩=some (.int .i64 (m:Int)):=by simp
 have hz0:w.heap.size<(w.alloc (.cells #[.int .i64 (m:Int)] 3)).heap.size:=by simp
 clear b0 hT cc hk hq;go_enter Tryz.func117,Tryz.ntmps117;go_wp2_with fail;refine CC.out.mono ?_;rintro e w1 ⟨rfl,b1⟩;have hc:w1.cell? ⟨w.heap.size,0,none⟩=some (.int .i64 (m:Int)):=(b1.cell hz0).trans hc0;have BB:=hide (B0.out.trans (b1.mono (by simp)));have SZ:=hide (Nat.le_trans (Nat.le_of_lt hz0) b1.size);clear hc0 hz0 b1
 by_cases h1:m=0
 ·have e1:=hide (err_1 h1);have h1':(m:Int)=0:=by omega
  clear h1;go_wp2_with (first|(go_at_call 159;refine (zdJ _ _ _ _ hc).mono ?_;rintro e w' ⟨rfl,rfl⟩));go_ret;refine ⟨.inr ⟨by rw [e1.out];decide,_,rfl,by rw [e1.out];simp⟩,BB.out.alloc (by have:=SZ.out;omega) _⟩
 ·by_cases h2:m%8192≠0
  ·have e1:=hide (err_2 h1 h2);have h1':¬(m:Int)=0:=by omega
   have h2':¬(m:Int)%8192=0:=by omega
   clear h1 h2;go_wp2_with (first|(go_at_call 159;refine (zdJ _ _ _ _ hc).mono ?_;rintro e w' ⟨rfl,rfl⟩));go_ret;refine ⟨.inr ⟨by rw [e1.out];decide,_,rfl,by rw [e1.out];simp⟩,BB.out.alloc (by have:=SZ.out;omega) _⟩
  ·have h1':¬(m:Int)=0:=by omega
   have h2':(m:Int)%8192=0:=by omega
   by_cases h3:320<m/8192
   ·have e1:=hide (err_3 h1 h2 h3);have h3':320<k:=by rw [HK.out];omega
    clear h1 h2 h3;go_wp2_with (first|(go_at_call 159;refine (zdJ _ _ _ _ hc).mono ?_;rintro e w' ⟨rfl,rfl⟩));go_ret;refine ⟨.inr ⟨by rw [e1.out];decide,_,rfl,by rw [e1.out];simp⟩,BB.out.alloc (by have:=SZ.out;omega) _⟩
   ·have h3':¬320<k:=by rw [HK.out];omega
    by_cases h4:zdh ((m/8192:Nat):Int)=true
    ·have e1:=hide (err_4 h1 h2 h3 h4);have h4':q=true:=by rw [HQ.out,HK.out];exact h4
     subst h4';clear h1 h2 h3 h4;go_wp2_with (first|(go_at_call 159;refine (zdJ _ _ _ _ hc).mono ?_;rintro e w' ⟨rfl,rfl⟩));go_ret;exact ⟨.inl ⟨e1.out,rfl⟩,BB.out⟩
    ·have e1:=hide (err_5 h1 h2 h3 h4);have h4':q=false:=by rw [HQ.out,HK.out];simpa using h4
     subst h4';clear h1 h2 h3 h4;go_wp2_with (first|(go_at_call 159;refine (zdJ _ _ _ _ hc).mono ?_;rintro e w' ⟨rfl,rfl⟩));go_ret;refine ⟨.inr ⟨by rw [e1.out];decide,_,rfl,by rw [e1.out];simp⟩,BB.out.alloc (by have:=SZ.out;omega) _⟩
def ztT (B:Nat) (w:World) (c:Nat) (bs:List Int):Prop:=∃d,B≤c∧B≤d∧w.cell? ⟨c,0,none⟩=some (.slice (some ⟨d,0,none⟩) bs.length bs.length)∧Bytes 5 w d bs
theorem zmM (m:Nat) (cs:List Value) (z:Value) (h:cs.length=m):splice (List.replicate m z) 0 cs=cs:=by
 subst h;simp [splice]
theorem zoM (g off n cap o:Nat) (cs:List Int) (w:World) (ho:0<n-zbz n→o=off+zbz n) (hl:cs.length=n-zbz n)
  (hR:∀i,i<cs.length→w.cell? ⟨g,o+i,none⟩=some (.int .u8 (cs.getD i 0))) (hB:∀z ∈ cs,0≤z∧z<256)
  (hn:n≤10000000) (hg:g<w.heap.size) (hT:HasTab w) (hE:HasErr w)
  (hw:Calls Tryz.prog 115 #[.slice (some ⟨g,off,none⟩) n cap] w fun e w'=>e=.returned (.slice (some ⟨g,o,none⟩) (n-zbz n) (cap-zbz n))∧w'=w):
  Calls Tryz.prog 67 #[.slice (some ⟨g,off,none⟩) n cap] w fun e w'=>((zdr (n-zbz n)≠0∧e=.returned (.tuple #[.pointer none,.int .i64 (zdr (n-zbz n))])) ∨
   (zdr (n-zbz n)=0∧∃c,e=.returned (.tuple #[.pointer (some ⟨c,0,none⟩),.int .i64 0])∧ztT w.heap.size w' c cs))∧Below w.heap.size w w':=by
 obtain ⟨m,hm⟩:∃m,m=n-zbz n:=⟨_,rfl⟩
 rw [←hm] at hw hl ⊢;have b0:Below w.heap.size w (w.alloc (.cells #[.int .i64 0] 124)):=(Below.refl _ w).alloc (Nat.le_refl _) _;have CW:=hide hw;have CK:=hide (zoL m (w.alloc (.cells #[.int .i64 0] 124)) (by omega) (hT.next b0));have hE1:=hide (hE.next b0);have hc0:=hide (show (w.alloc (.cells #[.int .i64 0] 124)).cell? ⟨w.heap.size,0,none⟩=some (.int .i64 0) by simp);have hf0:=hide (show (w.alloc (.cells #[.int .i64 0] 124)).frozen? ⟨w.heap.size,0,none⟩=false by simp);have hz0:=hide (show w.heap.size<(w.alloc (.cells #[.int .i64 0] 124)).heap.size by simp);have B0:=hide b0;have HR:=hide hR;have HB:=hide hB;have HM:=hide hm;have HG:=hide hg;clear hw b0 hT hE hR hB ho hm hg;go_enter Tryz.func67,Tryz.ntmps67;go_wp2_with fail;refine CW.out.mono ?_;rintro e w1 ⟨rfl,hw1⟩;subst w1;go_wp2_with fail;refine CK.out.mono ?_;rintro e w2 ⟨⟨he,rfl⟩|⟨he,b,rfl,hcell⟩,b2⟩
 ·have BB:=hide (B0.out.trans (b2.mono (Nat.le_of_lt hz0.out)));have hmk:=zlB m (by have:=HM.out;omega) w2;obtain ⟨w4,hw4⟩:∃w4,w4=(w2.alloc (.cells ((List.replicate m (0:Int)).map (Value.int .u8)).toArray 5)):=⟨_,rfl⟩
  rw [←hw4] at hmk;have SZ:=hide (Nat.le_trans (Nat.le_of_lt hz0.out) b2.size);have B4:Hid (Below w.heap.size w w4):=by rw [hw4];exact BB.out.alloc SZ.out _
  have R4:Hid (w4.heap[w2.heap.size]? = some (.cells (List.replicate m (Value.int .u8 0)).toArray 5 (0,0))):=by
   refine hide ?_;rw [hw4,heap_alloc_new];simp
  have HR4:Hid (∀j v,(cs.map (Value.int .u8))[j]? = some v→w4.cell? ((⟨g,o,none⟩:Addr).add j)=some v):=by
   intro j v hj;have hj':j<cs.length:=by
    rcases Nat.lt_or_ge j cs.length with h|h
    ·exact h
    ·rw [List.getElem?_eq_none (by simpa using h)] at hj;cases hj
   have e1:(⟨g,o,none⟩:Addr).add j=⟨g,o+j,none⟩:=by unfold Addr.add;split<;>simp_all
   rw [e1,B4.out.cell (p:=⟨g,o+j,none⟩) HG.out,HR.out j hj']
   simpa [hj'] using hj
  have HE:=hide he;have HL:=hide hl;clear he b2 hw4 hl;have hmb:m≤10000000:=by have:=HM.out;omega
  go_wp2_with fail;refine (zxZ _ _).mono ?_;rintro e w6 ⟨rfl,hw6⟩;subst w6;go_wp2_with (first|(refine wpList_copy_splice rfl (.tmp 18) (.tmp 19) 66 66 rfl 5 Tryz.underlying66 (by kernel_rfl) (some ⟨w2.heap.size,0,none⟩) (some ⟨g,o,none⟩) m m m _ rfl rfl w2.heap.size 0 (List.replicate m (Value.int .u8 0)) 5 R4.out (cs.map (Value.int .u8)) (by simp [HL.out]) (fun _=>⟨rfl,_,rfl,HR4.out⟩) (by simp [HL.out]) (by intro v hv;simp at hv;obtain ⟨z,_,rfl⟩:=hv;rfl) w.heap.size w B4.out SZ.out ?_;intro w5 h5 b5));go_ret2;have e5:splice (List.replicate m (Value.int .u8 0)) 0 (cs.map (Value.int .u8))=cs.map (Value.int .u8):=zmM _ _ _ (by simpa using HL.out);have h6:=h5.out;rw [e5] at h6;have s5:=b5.size;have hd5:w2.heap.size<w5.heap.size:=by
   rcases Nat.lt_or_ge w2.heap.size w5.heap.size with h|h
   ·exact h
   ·rw [Array.getElem?_eq_none h] at h6;cases h6
  refine ⟨.inr ⟨HE.out,_,rfl,w2.heap.size,s5,SZ.out,?_,?_⟩,b5.alloc s5 _⟩
  ·rw [HL.out];simp
  ·exact ⟨(Below.heap_alloc w5 _ _ hd5).trans h6,HB.out⟩
 ·have HE:=hide he;have BB:=hide (B0.out.trans (b2.mono (Nat.le_of_lt hz0.out)));have hA:=hide (zrS b (zdr m) ⟨w.heap.size,0,none⟩ (.int .i64 0) w2 (hE1.out.next b2) hcell ((b2.cell hz0.out).trans hc0.out) ((b2.frozen hz0.out).trans hf0.out));have hc2:=hide ((b2.cell (p:=⟨w.heap.size,0,none⟩) hz0.out).trans hc0.out);clear he b2 hcell;go_wp2_with fail;refine hA.out.mono ?_;rintro e w3 ⟨rfl,hw3⟩;have hc3:w3.cell? ⟨w.heap.size,0,none⟩=some (.int .i64 (zdr m)):=by
   rw [hw3];refine World.cell?_setCell_same _ _ _ (u:=.int .i64 0) ?_;have hlt:w.heap.size<w2.heap.size:=zii hc2.out;rw [World.cell?_alloc_lt _ _ _ (by simp;omega),World.cell?_alloc_lt _ _ _ (by simp;omega),World.cell?_alloc_lt _ _ _ (by simp;omega),World.cell?_alloc_lt _ _ _ (by simpa using hlt)];exact hc2.out
  have B3:Hid (Below w.heap.size w w3):=by
   rw [hw3];have:=BB.out.size;exact ((((BB.out.alloc (by omega) _).alloc (by simp;omega) _).alloc (by simp;omega) _).alloc (by simp;omega) _).setCell (Nat.le_refl _) _
  clear hw3;go_wp2_with fail;go_region
  all_goals (try go_wp2)
  go_ret2;exact ⟨.inl ⟨HE.out,rfl⟩,B3.out.drew⟩
theorem zrT (g off cap:Nat) (bs:List Int) (w:World)
  (hR:∀i,i<bs.length→w.cell? ⟨g,off+i,none⟩=some (.int .u8 (bs.getD i 0))) (hB:∀z ∈ bs,0≤z∧z<256)
  (hn:bs.length≤10000000) (hc:bs.length≤cap) (hm:cap≤9223372036854775807) (hg:g<w.heap.size) (hT:HasTab w) (hE:HasErr w):
  Calls Tryz.prog 67 #[.slice (some ⟨g,off,none⟩) bs.length cap] w fun e w'=>((zdr (bs.length-zbz bs.length)≠0∧e=.returned (.tuple #[.pointer none,.int .i64 (zdr (bs.length-zbz bs.length))])) ∨
   (zdr (bs.length-zbz bs.length)=0∧∃c,e=.returned (.tuple #[.pointer (some ⟨c,0,none⟩),.int .i64 0])∧ztT w.heap.size w' c (bs.drop (zbz bs.length))))∧Below w.heap.size w w':=by
 have hw:=zyb g off bs.length cap w (by omega) hc hm;have hl:(bs.drop (zbz bs.length)).length=bs.length-zbz bs.length:=by simp
 have go:∀o,(0<bs.length-zbz bs.length→o=off+zbz bs.length)→(∀i,i<(bs.drop (zbz bs.length)).length→w.cell? ⟨g,o+i,none⟩=some (.int .u8 ((bs.drop (zbz bs.length)).getD i 0))):=by
  intro o ho i hi;rw [hl] at hi;rw [ho (by omega),show off+zbz bs.length+i=off+(zbz bs.length+i) by omega,hR _ (by omega)];simp [List.getD_eq_getElem?_getD]
 refine zoM g off bs.length cap _ _ w ?_ hl (go _ ?_) (fun z hz=>hB z (List.mem_of_mem_drop hz)) hn hg hT hE hw <;>
 ·intro k;rw [if_neg];rintro ⟨h1,h2⟩;have h3:zbz 512=512:=by decide
  rw [h2,h3] at k;omega
end Go.Proofs.YtoijhhbiknhlnaaGreatDoor.C3
namespace Go.Proofs.YtoijhhbiknhlnaaGreatDoor.L24
set_option maxHeartbeats 1600000
set_option maxRecDepth 20000
open C3 G6 M5 P22 R15 W13
open Go.RowKit
set_option linter.unusedVariables false
theorem zyc (v c:Nat):IsB (LB v c):=rfl
theorem zrU:(#[.int .i64 0,.int .i64 248,.int .i64 0,.int .i64 0,.int .i64 0,.int .i64 0,.int .i64 0,.int .i64 0]:Array Value)=rowF (iv fl0) 8:=rfl
theorem zfP {w:World} {c o:Nat} {x:Value} (h:w.cell? ⟨c,o,none⟩=some x):c<w.heap.size:=zii h
theorem zyd {w:World} {c d:Nat} {bs:List Int} (hc:HasCard w c d bs) (h0:1≤bs.length/8192) (h1:bs.length≤10000000) (hT:Tabs w):
  Calls Tryz.prog 68 #[.pointer (some ⟨c,0,none⟩)] w fun e w'=>∃b v,e=Ending.returned (.pointer (some ⟨b,0,none⟩))∧HasX w' b v c d (LB v c) bs (fun _=>0) 0 0 1 0 0∧(w.heap.size≤b∧w.heap.size≤v)∧Below w.heap.size w w':=by
 have KP:=hide (zfj ⟨c,0,none⟩ (some ⟨d,0,none⟩) bs.length bs.length w (by omega) hc.1);have p2:(((bs.length/8192:Nat):Int)==0)=false:=by simp;omega
 have P0:=hide (show 1≤bs.length/8192∧bs.length≤10000000 from ⟨h0,h1⟩);have HC:=hide hc;have HT:=hide hT;have F8:=hide M5.fresh_any;rw [zrU] at F8;generalize ((bs.length/8192:Nat):Int)=n at *;clear hc h0 h1 hT;go_enter Tryz.func68,Tryz.ntmps68
 go_wp2_with (first
  |(go_at_call 80;refine KP.out.mono ?_;rintro e w' ⟨rfl,hw⟩;subst w')
  |(go_at_call 118;refine (R15.fresh_any _).mono ?_;rintro e w1 ⟨rfl,b1⟩;have B1:=hide b1;clear b1)
  |(go_at_call 119;refine (W13.new_any _).mono ?_;rintro e w2 ⟨rfl,h2,b2⟩;have V2:=hide h2;have B2:=hide (zar B1.out b2);have N2:=hide B1.out.size;clear h2 b2 B1;generalize w1.heap.size=v at *)
  |(refine wpList_built rfl 31 _ rfl #[(0,.agg (rowG 0 fun _=>0)),(1,.pointer (some ⟨v,0,none⟩))] (by simp [Act.eval]) _ (zuO v) ?_)
  |(go_at_call 25;refine (F8.out _).mono ?_;rintro e w3 ⟨rfl,b3⟩;have V3:=hide (V2.out.next b3);have B3:=hide (zar B2.out b3);clear b3 V2 B2)
  |(go_at_call 120;refine (P22.fresh_any _).mono ?_;rintro e w4 ⟨rfl,b4⟩;have V4:=hide (V3.out.next b4);have B4:=hide (zar B3.out b4);clear b4 V3 B3)
  |(refine wpList_built rfl 55 _ rfl #[(0,.agg (rowF (segs (LV v)) 281)),(1,.pointer (some ⟨c,0,none⟩)),(4,.agg (rowF (iv fl0) 8)),(6,.agg (rowF (iv zcv) 244)),(11,.int .i64 255)] (by simp [Act.eval]) _ (zuP v c) ?_
    obtain ⟨R,hR⟩:∃R,rowF (segs (LB v c)) 9263=R:=⟨_,rfl⟩
    rw [hR]
    replace hR:=hide hR))
 go_ret;have X:=zbQ 55 w4 9263 (segs (LB v c));rw [hR.out] at X;have bb:=(Below.refl _ w4).alloc (Nat.le_refl _) (.cells R 55);have B5:=zar B4.out bb;have T5:=HT.out.next B5;have C5:=HC.out.next B5;have V5:=V4.out.next bb;have lb:w.heap.size≤w4.heap.size:=B4.out.size;have lv:=V4.out.lt;refine ⟨_,v,rfl,⟨X,V5,C5,T5,zyc v c,rfl,rfl,⟨?_,?_,?_,?_,?_,HT.out.high lb,HT.out.high N2.out⟩,P0.out,by decide⟩,⟨lb,N2.out⟩,B5⟩
 ·omega
 ·exact Nat.ne_of_gt (Nat.lt_of_lt_of_le (zfP HC.out.1) lb)
 ·exact Nat.ne_of_gt (Nat.lt_of_lt_of_le HC.out.2.1.lt lb)
 ·exact Nat.ne_of_gt (Nat.lt_of_lt_of_le (zfP HC.out.1) N2.out)
 ·exact Nat.ne_of_gt (Nat.lt_of_lt_of_le HC.out.2.1.lt N2.out)
open B4 C3 G6 M5 P22 R15 W13
theorem zye {w:World} {b v c d:Nat} {L:List (Nat×(Nat→Value))} {bs:List Int} {f:Nat→Int} {wr rd st lo bu:Int} (h:HasX w b v c d L bs f wr rd st lo bu) (p:Int) (p0:2031616≤p) (p1:p<2064384) (a:Int) (ha:p%8192=a) {m:Nat→Value} (h8:L[8]? = some (8192,m)) {x:Int} (hm:m a.toNat=.int .u8 x) (x0:0≤x) (x1:x<256):Calls Tryz.prog 28 #[.pointer (some ⟨b,0,none⟩),.int .i64 p] w fun e w'=>e=Ending.returned (.int .i64 x)∧HasX w' b v c d L bs f wr rd st lo bu∧OnlyE (EX b v) w w':=by
 refine zry h p 0 a (fun w _=>by have:=zgN p w p0 p1;rw [ha] at this;exact this) (R:=fun w'=>HasX w' b v c d L bs f wr rd st lo bu∧OnlyE (EX b v) w w') fun w1 b1=>?_
 exact (zmv (h.next b1) 1 0 a a.toNat (by omega) (by omega) h8 hm x0 x1).mono fun e w' ⟨e1,x2,o2⟩=>⟨e1,x2,(zaB b1).trans o2⟩
theorem zyf {w:World} {b v c d:Nat} {L:List (Nat×(Nat→Value))} {bs:List Int} {f:Nat→Int} {wr rd st lo bu:Int} (h:HasX w b v c d L bs f wr rd st lo bu) (p:Int) (p0:2031616≤p) (p1:p<2064384) (a:Int) (ha:p%8192=a) {m:Nat→Value} (h8:L[8]? = some (8192,m)) (n y:Int) (hy:n%256=y):Calls Tryz.prog 62 #[.pointer (some ⟨b,0,none⟩),.int .i64 p,.int .i64 n] w fun e w'=>e=Ending.returned (.tuple #[])∧HasX w' b v c d (L.set 8 (8192,updC m a.toNat (.int .u8 y))) bs f wr rd st lo bu∧OnlyE (EX b v) w w':=
 zos h p n 0 a (fun w _=>by have:=zgN p w p0 p1;rw [ha] at this;exact this) y hy (by omega) (by omega) h8
theorem zyg {w:World} {b v c d:Nat} {L:List (Nat×(Nat→Value))} {bs:List Int} {f:Nat→Int} {wr rd st lo bu:Int} (h:HasX w b v c d L bs f wr rd st lo bu) (p:Int) (p0:0≤p) (p1:p<1048576) {lt:Int} (h7:L[7]? = some (1,fun _=>Value.int .i64 lt)) {x:Int} (KB:∀w,HasCard w c d bs→Calls Tryz.prog 124 #[.pointer (some ⟨c,0,none⟩),.int .i64 (zdH ((bs.length/8192:Nat):Int) lt (p/8192)),.int .i64 (p%8192)] w fun e w'=>e=Ending.returned (.int .i64 x)∧w'=w):Calls Tryz.prog 28 #[.pointer (some ⟨b,0,none⟩),.int .i64 p] w fun e w'=>e=Ending.returned (.int .i64 x)∧HasX w' b v c d L bs f wr rd st lo bu∧OnlyE (EX b v) w w':=by
 refine zrx h p (p/8192) (p%8192) (fun w _=>zgM p w p0 p1) (R:=fun w'=>HasX w' b v c d L bs f wr rd st lo bu∧OnlyE (EX b v) w w') fun w1 b1=>?_
 exact (zmw (h.next b1) 0 (p/8192) (p%8192) h7 rfl KB).mono fun e w' ⟨e1,x2,o2⟩=>⟨e1,x2,(zaB b1).trans o2⟩
theorem zyh {w:World} {b v c d:Nat} {L:List (Nat×(Nat→Value))} {bs:List Int} {f:Nat→Int} {wr rd st lo bu:Int} (h:HasX w b v c d L bs f wr rd st lo bu) (p:Int) (p0:0≤p) (p1:p<1048576) {lt:Int} (h7:L[7]? = some (1,fun _=>Value.int .i64 lt)) (hn:bs.length/8192≠320) (n:Int):Calls Tryz.prog 62 #[.pointer (some ⟨b,0,none⟩),.int .i64 p,.int .i64 n] w fun e w'=>e=Ending.returned (.tuple #[])∧HasX w' b v c d L bs f wr rd st lo bu∧OnlyE (EX b v) w w':=by
 have k:=zot h p n (p/8192) (p%8192) (fun w _=>zgM p w p0 p1) _ rfl h7 rfl;have e:zfN ((bs.length/8192:Nat):Int) lt (p%8192)=lt:=by
  unfold zfN;rw [if_neg (by omega)]
 rw [e,zhJ h7] at k;exact k
end Go.Proofs.YtoijhhbiknhlnaaGreatDoor.L24
