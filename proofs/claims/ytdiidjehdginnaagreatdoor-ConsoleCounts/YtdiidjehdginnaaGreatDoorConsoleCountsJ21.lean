/- Texts put together. -/
import Derived.Test.YtdiidjehdginnaaGreatDoorConsoleCountsJ20
import Derived.Test.YtdiidjehdginnaaGreatDoorConsoleCountsJ18
import Derived.Laws.Cover1
import Derived.Deep.CutRange
import Derived.Test.YtdiidjehdginnaaGreatDoorConsoleCountsJ17
import Derived.Laws.CopyOwn
import Derived.Deep.RegionHeld3
import Derived.Test.YtdiidjehdginnaaGreatDoorConsoleCountsJ06
import Derived.Test.YtdiidjehdginnaaGreatDoorConsoleCountsJ01
namespace Go.Proofs.YtdiidjehdginnaaGreatDoor.L25
set_option maxHeartbeats 8000000
set_option maxRecDepth 20000
open A2 B4 C3 D19 D24 G6 I11 J23 K9 L24 M5 N21 N8 O7 P22 R15 T10 V12 W13
open Go.RowKit
set_option linter.unusedVariables false
set_option linter.unusedSimpArgs false
variable {F f:Bool} {a l p:Int} {bs:List Int} {T b c d g j lo ns q v:Nat} {M:Nat→Int} {Y:Nat→Nat→Int} {W w:World}
def C9 (lo:Nat) (v:Value) (x:World):Prop:=∃s K,v=.slice (some ⟨s,0,none⟩) 8 8∧RowN x s 8 K∧lo≤s
def C7 (lo:Nat) (v:Value) (x:World):Prop:=∃s K,v=.tuple #[.slice (some ⟨s,0,none⟩) 8 8,.bool false,.bool false]∧RowN x s 8 K∧lo≤s
def lnG (lo:Nat):Nat→Value→World→Prop
 |37=>C7 lo
 |38=>C7 lo
 |39=>C9 lo
 |42=>C9 lo
 |_=>fun _ _=>True
theorem zCZ {i:Nat} (h7:¬i=37) (h8:¬i=38) (h9:¬i=39) (h12:¬i=42) (v:Value) (y:World):lnG lo i v y:=by
 unfold lnG;split<;>first|exact absurd rfl h7|exact absurd rfl h8|exact absurd rfl h9|exact absurd rfl h12|trivial
theorem zwF (hp:ziY Y):rowF (iv (Y 2)) 256=(tabL fun _=>0).toArray:=by
 rw [show rowF (iv (Y 2)) 256=rowF (iv fun _=>0) 256 from zbh fun j _=>by unfold iv;rw [hp.2.1]];rfl
theorem zwG (hp:ziY Y):rowF (iv (Y 10)) 514=V12.rowV 0 0 (fun _=>0):=by
 rw [←zdx];exact zbh fun j _=>by
  unfold iv vF;rw [hp.2.2.2.2 j];split
  ·rfl
  ·split<;>rfl
theorem zzS {pc:Nat} {tick wait:Int}  (h:RK lo W w g b v c d q bs Y M a p pc f l tick wait 0 0 ns) (hp:ziY Y):Calls Tryz.prog 58 #[.pointer (some ⟨g,0,none⟩),.int .i64 0,.func (.func 11) #[] #[.pointer (some ⟨q,0,none⟩)]] w fun e w'=>e=Ending.returned (.tuple #[])∧RK lo W w' g b v c d q bs Y M a p pc f l tick wait 0 1 ns:=by
 have H:=hide h;have ZR:=hide (zlW hp);have ZT:=hide (zwF hp);have ZV:=hide (zwG hp);have c8:=h.1.2.1.at 8 (y:=.pointer (some ⟨b,0,none⟩)) rfl;obtain ⟨L,hL,hg⟩:=h.1.regs;have HL:=hide hL;have HG:=hide hg;have KR:=hide (fun u=>R15.raster_any 0 (fun _=>0) 0 0 rfl u);rw [show R15.rasOf 0 0=false by decide] at KR;have HP:=hide hp;clear h hL hg hp;go_enter Tryz.func58,Tryz.ntmps58
 go_wp2_with (first
  |(refine zaw rfl 32 (.tmp 17) rfl b 0 rfl HL.out 21 (by decide) (iv (Y 0)) HG.out _ Tryz.underlying32 rfl (by kernel_rfl) ?_;rw [ZR.out])
  |(go_at_call 87;refine (KR.out _).mono ?_;rintro e w1 ⟨rfl,b1⟩;have H1:=hide (H.out.next b1);clear b1 H KR HL HG c8))
 obtain ⟨A,hA⟩:∃A:World→Prop,A=fun x=>Below w1.heap.size w1 x:=⟨_,rfl⟩
 have AX:=hide (fun x (k:A x)=>show Below w1.heap.size w1 x by rw [hA] at k;exact k);have A0:=hide (show A w1.drew by rw [hA];exact (Below.refl _ w1).drew);have CKX:=hide (fun x (k:A x)=>(H1.out.next (AX.out x k)).1);have KV:=hide (fun x (k:A x)=>(CKX.out x k).vram.1);have K8:=hide (fun x (k:A x)=>show x.cell? ⟨b,8,none⟩=some (.int .i64 0) by have j:=(CKX.out x k).reg 8 (by decide);rw [HP.out.1] at j;exact j);have K16:=hide (fun x (k:A x)=>(CKX.out x k).2.1.at 16 (y:=.int .i64 0) rfl);have K9:=hide (fun x (k:A x)=>(CKX.out x k).2.1.at 9 (y:=.int .i64 8) rfl);have QR:=hide (fun x (k:A x)=>(CKX.out x k).regs);have QT:=hide (fun x (k:A x)=>(CKX.out x k).tab);have QV:=hide (fun x (k:A x)=>(CKX.out x k).vce)
 have KD:=hide (show ∀x,A x→Calls Tryz.prog 89 #[.agg (inL [.pointer (some ⟨v,0,none⟩)] (gL 0 fun _=>0) (tabL fun _=>0) (vL 0 0 fun _=>0) 0 0 0 8).toArray] x fun e x2=>∃s K,e=Ending.returned (.tuple #[.slice (some ⟨s,0,none⟩) 8 8,.bool false,.bool false])∧RowN x2 s 8 K∧w1.heap.size≤s∧A x2∧x.heap.size≤x2.heap.size∧∀k,w1.heap.size≤k→k<x.heap.size→x2.heap[k]? = x.heap[k]? from fun x k=>by
  obtain ⟨_,m,wr,rd,st,lo',bu,hm⟩:=(CKX.out x k).vram;refine (D19.draw_off v m wr rd st lo' bu x hm (inL [.pointer (some ⟨v,0,none⟩)] (gL 0 fun _=>0) (tabL fun _=>0) (vL 0 0 fun _=>0) 0 0 0 8).toArray (gL 0 fun _=>0) (tabL fun _=>0) (vL 0 0 fun _=>0) 0 (fun _=>0) (fun _=>0) 0 0 (fun _=>0) 0 0 0 (hide rfl) (hide rfl) (hide rfl) 8 (hide rfl) (by decide) (by decide) (by decide) (by decide)).mono fun e x2 ⟨s,K,l2,r,hr,b2⟩=>⟨s,K,r,hr,Nat.le_trans (AX.out x k).size l2,?_,b2.size,fun j _ l=>b2.block j l⟩
  rw [hA]
  exact zaz (AX.out x k) b2)
 clear HP hA;refine zdG (zCr [fun zv=>zv=.pointer (some ⟨b,0,none⟩),fun zv=>zv=.pointer (some ⟨b,0,none⟩),fun zv=>zv=.pointer (some ⟨b,0,none⟩),fun zv=>zv=.pointer (some ⟨b,21,none⟩),fun zv=>zv=.pointer (some ⟨v,0,none⟩),fun zv=>zv=.pointer (some ⟨b,0,none⟩),fun zv=>zv=.pointer (some ⟨b,0,none⟩),fun zv=>zv=.pointer (some ⟨b,0,none⟩),fun zv=>zv=.pointer (some ⟨b,0,none⟩),fun zv=>zv=.agg (R15.rowG 0 (fun _=>0)),fun zv=>zv=.pointer (some ⟨b,0,none⟩),fun zv=>zv=.pointer (some ⟨b,0,none⟩),fun zv=>zv=.pointer (some ⟨b,0,none⟩),fun zv=>zv=.pointer (some ⟨b,22,none⟩),fun zv=>zv=.agg (tabL fun _=>0).toArray,fun zv=>zv=.pointer (some ⟨b,0,none⟩),fun zv=>zv=.pointer (some ⟨b,0,none⟩),fun zv=>zv=.pointer (some ⟨b,8483,none⟩),fun zv=>zv=.agg (V12.rowV 0 0 fun _=>0),fun zv=>zv=.pointer (some ⟨b,0,none⟩),fun zv=>zv=.pointer (some ⟨b,0,none⟩),fun zv=>zv=.pointer (some ⟨b,0,none⟩),fun zv=>zv=.pointer (some ⟨b,0,none⟩),fun zv=>zv=.pointer (some ⟨b,1,none⟩),fun zv=>zv=.pointer (some ⟨b,8,none⟩),fun zv=>zv=.int .i64 0,fun zv=>zv=.pointer (some ⟨g,0,none⟩),fun zv=>zv=.pointer (some ⟨g,0,none⟩),fun zv=>zv=.pointer (some ⟨g,16,none⟩),fun zv=>zv=.int .i64 0,fun zv=>zv=.int .i64 0,fun zv=>zv=.pointer (some ⟨g,0,none⟩),fun zv=>zv=.pointer (some ⟨g,0,none⟩),fun zv=>zv=.pointer (some ⟨g,9,none⟩),fun zv=>zv=.pointer (some ⟨g,9,none⟩),fun zv=>zv=.int .i64 8,fun zv=>zv=.agg (inL [.pointer (some ⟨v,0,none⟩)] (gL 0 fun _=>0) (tabL fun _=>0) (vL 0 0 fun _=>0) 0 0 0 8).toArray,fun v=>∃s,v=.tuple #[.slice (some ⟨s,0,none⟩) 8 8,.bool false,.bool false],fun v=>∃s,v=.tuple #[.slice (some ⟨s,0,none⟩) 8 8,.bool false,.bool false],fun v=>∃s,v=.slice (some ⟨s,0,none⟩) 8 8,fun zv=>zv=.bool false,fun zv=>zv=.bool false,fun v=>∃s,v=.slice (some ⟨s,0,none⟩) 8 8,fun zv=>zv=.bool false,fun zv=>zv=.bool false]) (varS A A (lnG w1.heap.size) 37 999 998 w1.heap.size #[] #[] 0) _ (fun vals=>by simp only [zaA,Act.put,List.setIfInBounds_toArray,List.set_cons_succ,List.set_cons_zero,Nat.reduceAdd];rfl) (by kernel_rfl) (by kernel_rfl) (by kernel_rfl) (fun vals dn hd=>zlI hd (A0.out) (Nat.le_refl _)) ?_ ?_
 ·refine zag (fun vals dn x hi hc hk hs=>?_) (zag (fun vals dn x hi hc hk hs=>?_) (zag (fun vals dn x hi hc hk hs=>?_) (zag (fun vals dn x hi hc hk hs=>?_) (zag (fun vals dn x hi hc hk hs=>?_) (zag (fun vals dn x hi hc hk hs=>?_) (zag (fun vals dn x hi hc hk hs=>?_) (zag (fun vals dn x hi hc hk hs=>?_) (zag (fun vals dn x hi hc hk hs=>?_) (zag (fun vals dn x hi hc hk hs=>?_) (zag (fun vals dn x hi hc hk hs=>?_) (zag (fun vals dn x hi hc hk hs=>?_) (zag (fun vals dn x hi hc hk hs=>?_) (zag (fun vals dn x hi hc hk hs=>?_) (zag (fun vals dn x hi hc hk hs=>?_) (zag (fun vals dn x hi hc hk hs=>?_) (zag (fun vals dn x hi hc hk hs=>?_) (zag (fun vals dn x hi hc hk hs=>?_) (zag (fun vals dn x hi hc hk hs=>?_) (zag (fun vals dn x hi hc hk hs=>?_) (zag (fun vals dn x hi hc hk hs=>?_) (zag (fun vals dn x hi hc hk hs=>?_) (zag (fun vals dn x hi hc hk hs=>?_) (zag (fun vals dn x hi hc hk hs=>?_) (zag (fun vals dn x hi hc hk hs=>?_) (zag (fun vals dn x hi hc hk hs=>?_) (zag (fun vals dn x hi hc hk hs=>?_) (zag (fun vals dn x hi hc hk hs=>?_) (zag (fun vals dn x hi hc hk hs=>?_) (zag (fun vals dn x hi hc hk hs=>?_) (zag (fun vals dn x hi hc hk hs=>?_) (zag (fun vals dn x hi hc hk hs=>?_) (zag (fun vals dn x hi hc hk hs=>?_) (zag (fun vals dn x hi hc hk hs=>?_) (zag (fun vals dn x hi hc hk hs=>?_) (zag (fun vals dn x hi hc hk hs=>?_) (zag (fun vals dn x hi hc hk hs=>?_) (zag (fun vals dn x hi hc hk hs=>?_) (zag (fun vals dn x hi hc hk hs=>?_) (zag (fun vals dn x hi hc hk hs=>?_) (zag (fun vals dn x hi hc hk hs=>?_) (zag (fun vals dn x hi hc hk hs=>?_) (zag (fun vals dn x hi hc hk hs=>?_) (zag (fun vals dn x hi hc hk hs=>?_) (zag (fun vals dn x hi hc hk hs=>?_) zgK))))))))))))))))))))))))))))))))))))))))))))
  ·go_wp2_with fail;exact zal _ rfl rfl (zas (by decide) (by decide) (by decide) hs trivial)
  ·obtain ⟨⟨(h0:vals 0=.pointer (some ⟨b,0,none⟩)),t0⟩,_⟩:=hk;simp only [h0];clear h0;go_wp2_with fail;exact zal _ rfl rfl (zas (by decide) (by decide) (by decide) hs trivial)
  ·obtain ⟨⟨(h1:vals 1=.pointer (some ⟨b,0,none⟩)),t1⟩,_⟩:=hk;simp only [h1];clear h1;go_wp2_with fail;exact zal _ rfl rfl (zas (by decide) (by decide) (by decide) hs trivial)
  ·obtain ⟨⟨(h2:vals 2=.pointer (some ⟨b,0,none⟩)),t2⟩,_⟩:=hk;simp only [h2];clear h2;go_wp2_with fail;exact zal _ rfl rfl (zas (by decide) (by decide) (by decide) hs trivial)
  ·obtain ⟨⟨(h3:vals 3=.pointer (some ⟨b,21,none⟩)),t3⟩,_⟩:=hk;simp only [h3];clear h3;have q:=KV.out x (hs.1 (zap hc hi 37 60 (by kernel_rfl)));go_wp2_with fail;exact zal _ rfl rfl (zas (by decide) (by decide) (by decide) hs trivial)
  ·go_wp2_with fail;exact zal _ rfl rfl (zas (by decide) (by decide) (by decide) hs trivial)
  ·obtain ⟨⟨(h5:vals 5=.pointer (some ⟨b,0,none⟩)),t5⟩,_⟩:=hk;simp only [h5];clear h5;go_wp2_with fail;exact zal _ rfl rfl (zas (by decide) (by decide) (by decide) hs trivial)
  ·obtain ⟨⟨(h6:vals 6=.pointer (some ⟨b,0,none⟩)),t6⟩,_⟩:=hk;simp only [h6];clear h6;go_wp2_with fail;exact zal _ rfl rfl (zas (by decide) (by decide) (by decide) hs trivial)
  ·obtain ⟨⟨(h7:vals 7=.pointer (some ⟨b,0,none⟩)),t7⟩,_⟩:=hk;simp only [h7];clear h7;go_wp2_with fail;exact zal _ rfl rfl (zas (by decide) (by decide) (by decide) hs trivial)
  ·obtain ⟨⟨(h8:vals 8=.pointer (some ⟨b,0,none⟩)),t8⟩,_⟩:=hk;simp only [h8];clear h8;have q:=hide (hs.1 (zap hc hi 37 60 (by kernel_rfl)))
   (obtain ⟨L,hL,hg⟩:=QR.out x q.out;refine zaw rfl 32 (.tmp 32) rfl b 0 rfl hL 21 (by decide) (iv (Y 0)) hg _ Tryz.underlying32 rfl (by kernel_rfl) ?_;rw [ZR.out])
   exact zal _ rfl rfl (zas (by decide) (by decide) (by decide) hs trivial)
  ·go_wp2_with fail;exact zal _ rfl rfl (zas (by decide) (by decide) (by decide) hs trivial)
  ·obtain ⟨⟨(h10:vals 10=.pointer (some ⟨b,0,none⟩)),t10⟩,_⟩:=hk;simp only [h10];clear h10;go_wp2_with fail;exact zal _ rfl rfl (zas (by decide) (by decide) (by decide) hs trivial)
  ·obtain ⟨⟨(h11:vals 11=.pointer (some ⟨b,0,none⟩)),t11⟩,_⟩:=hk;simp only [h11];clear h11;go_wp2_with fail;exact zal _ rfl rfl (zas (by decide) (by decide) (by decide) hs trivial)
  ·obtain ⟨⟨(h12:vals 12=.pointer (some ⟨b,0,none⟩)),t12⟩,_⟩:=hk;simp only [h12];clear h12;go_wp2_with fail;exact zal _ rfl rfl (zas (by decide) (by decide) (by decide) hs trivial)
  ·obtain ⟨⟨(h13:vals 13=.pointer (some ⟨b,22,none⟩)),t13⟩,_⟩:=hk;simp only [h13];clear h13;have q:=hide (hs.1 (zap hc hi 37 60 (by kernel_rfl)))
   (obtain ⟨L,hL,hg⟩:=QT.out x q.out;refine zaw rfl 34 (.tmp 37) rfl b 22 rfl hL 256 (by decide) (iv (Y 2)) hg _ Tryz.underlying34 rfl (by kernel_rfl) ?_;rw [ZT.out])
   exact zal _ rfl rfl (zas (by decide) (by decide) (by decide) hs trivial)
  ·go_wp2_with fail;exact zal _ rfl rfl (zas (by decide) (by decide) (by decide) hs trivial)
  ·obtain ⟨⟨(h15:vals 15=.pointer (some ⟨b,0,none⟩)),t15⟩,_⟩:=hk;simp only [h15];clear h15;go_wp2_with fail;exact zal _ rfl rfl (zas (by decide) (by decide) (by decide) hs trivial)
  ·obtain ⟨⟨(h16:vals 16=.pointer (some ⟨b,0,none⟩)),t16⟩,_⟩:=hk;simp only [h16];clear h16;go_wp2_with fail;exact zal _ rfl rfl (zas (by decide) (by decide) (by decide) hs trivial)
  ·obtain ⟨⟨(h17:vals 17=.pointer (some ⟨b,8483,none⟩)),t17⟩,_⟩:=hk;simp only [h17];clear h17;have q:=hide (hs.1 (zap hc hi 37 60 (by kernel_rfl)))
   (obtain ⟨L,hL,hg⟩:=QV.out x q.out;refine zaw rfl 43 (.tmp 41) rfl b 8483 rfl hL 514 (by decide) (iv (Y 10)) hg _ Tryz.underlying43 rfl (by kernel_rfl) ?_;rw [ZV.out])
   exact zal _ rfl rfl (zas (by decide) (by decide) (by decide) hs trivial)
  ·go_wp2_with fail;exact zal _ rfl rfl (zas (by decide) (by decide) (by decide) hs trivial)
  ·obtain ⟨⟨(h19:vals 19=.pointer (some ⟨b,0,none⟩)),t19⟩,_⟩:=hk;simp only [h19];clear h19;go_wp2_with fail;exact zal _ rfl rfl (zas (by decide) (by decide) (by decide) hs trivial)
  ·obtain ⟨⟨(h20:vals 20=.pointer (some ⟨b,0,none⟩)),t20⟩,_⟩:=hk;simp only [h20];clear h20;go_wp2_with fail;exact zal _ rfl rfl (zas (by decide) (by decide) (by decide) hs trivial)
  ·obtain ⟨⟨(h21:vals 21=.pointer (some ⟨b,0,none⟩)),t21⟩,_⟩:=hk;simp only [h21];clear h21;go_wp2_with fail;exact zal _ rfl rfl (zas (by decide) (by decide) (by decide) hs trivial)
  ·obtain ⟨⟨(h22:vals 22=.pointer (some ⟨b,0,none⟩)),t22⟩,_⟩:=hk;simp only [h22];clear h22;go_wp2_with fail;exact zal _ rfl rfl (zas (by decide) (by decide) (by decide) hs trivial)
  ·obtain ⟨⟨(h23:vals 23=.pointer (some ⟨b,1,none⟩)),t23⟩,_⟩:=hk;simp only [h23];clear h23;go_wp2_with fail;exact zal _ rfl rfl (zas (by decide) (by decide) (by decide) hs trivial)
  ·obtain ⟨⟨(h24:vals 24=.pointer (some ⟨b,8,none⟩)),t24⟩,_⟩:=hk;simp only [h24];clear h24;have q:=K8.out x (hs.1 (zap hc hi 37 60 (by kernel_rfl)));go_wp2_with fail;exact zal _ rfl rfl (zas (by decide) (by decide) (by decide) hs trivial)
  ·go_wp2_with fail;exact zal _ rfl rfl (zas (by decide) (by decide) (by decide) hs trivial)
  ·obtain ⟨⟨(h26:vals 26=.pointer (some ⟨g,0,none⟩)),t26⟩,_⟩:=hk;simp only [h26];clear h26;go_wp2_with fail;exact zal _ rfl rfl (zas (by decide) (by decide) (by decide) hs trivial)
  ·obtain ⟨⟨(h27:vals 27=.pointer (some ⟨g,0,none⟩)),t27⟩,_⟩:=hk;simp only [h27];clear h27;go_wp2_with fail;exact zal _ rfl rfl (zas (by decide) (by decide) (by decide) hs trivial)
  ·obtain ⟨⟨(h28:vals 28=.pointer (some ⟨g,16,none⟩)),t28⟩,_⟩:=hk;simp only [h28];clear h28;have q:=K16.out x (hs.1 (zap hc hi 37 60 (by kernel_rfl)));go_wp2_with fail;exact zal _ rfl rfl (zas (by decide) (by decide) (by decide) hs trivial)
  ·go_wp2_with fail;exact zal _ rfl rfl (zas (by decide) (by decide) (by decide) hs trivial)
  ·go_wp2_with fail;exact zal _ rfl rfl (zas (by decide) (by decide) (by decide) hs trivial)
  ·obtain ⟨⟨(h31:vals 31=.pointer (some ⟨g,0,none⟩)),t31⟩,_⟩:=hk;simp only [h31];clear h31;go_wp2_with fail;exact zal _ rfl rfl (zas (by decide) (by decide) (by decide) hs trivial)
  ·obtain ⟨⟨(h32:vals 32=.pointer (some ⟨g,0,none⟩)),t32⟩,_⟩:=hk;simp only [h32];clear h32;go_wp2_with fail;exact zal _ rfl rfl (zas (by decide) (by decide) (by decide) hs trivial)
  ·obtain ⟨⟨(h33:vals 33=.pointer (some ⟨g,9,none⟩)),t33⟩,_⟩:=hk;simp only [h33];clear h33;go_wp2_with fail;exact zal _ rfl rfl (zas (by decide) (by decide) (by decide) hs trivial)
  ·obtain ⟨⟨(h34:vals 34=.pointer (some ⟨g,9,none⟩)),t34⟩,_⟩:=hk;simp only [h34];clear h34;have q:=K9.out x (hs.1 (zap hc hi 37 60 (by kernel_rfl)));go_wp2_with fail;exact zal _ rfl rfl (zas (by decide) (by decide) (by decide) hs trivial)
  ·obtain ⟨⟨(h4:vals 4=.pointer (some ⟨v,0,none⟩)),t4⟩,⟨(h9:vals 9=.agg (R15.rowG 0 (fun _=>0))),t9⟩,⟨(h14:vals 14=.agg (tabL fun _=>0).toArray),t14⟩,⟨(h18:vals 18=.agg (V12.rowV 0 0 fun _=>0)),t18⟩,⟨(h25:vals 25=.int .i64 0),t25⟩,⟨(h29:vals 29=.int .i64 0),t29⟩,⟨(h30:vals 30=.int .i64 0),t30⟩,⟨(h35:vals 35=.int .i64 8),t35⟩,_⟩:=hk;simp only [h4,h9,h14,h18,h25,h29,h30,h35];clear h4 h9 h14 h18 h25 h29 h30 h35;have q:=hide (hs.1 (zap hc hi 37 60 (by kernel_rfl)));refine wpList_built rfl 197 _ rfl #[(0,.pointer (some ⟨v,0,none⟩)),(1,.agg (R15.rowG 0 (fun _=>0))),(2,.agg (tabL fun _=>0).toArray),(3,.agg (V12.rowV 0 0 fun _=>0)),(4,.int .i64 0),(5,.int .i64 0),(6,.int .i64 0),(7,.int .i64 8)] (by simp [Act.eval]) _ (D19.run_input (.pointer (some ⟨v,0,none⟩)) rfl 0 _ _ 0 0 _ 0 0 0 8) ?_;exact zal _ rfl rfl (zas (by decide) (by decide) (by decide) hs trivial)
  ·obtain ⟨⟨(h36:vals 36=.agg (inL [.pointer (some ⟨v,0,none⟩)] (gL 0 fun _=>0) (tabL fun _=>0) (vL 0 0 fun _=>0) 0 0 0 8).toArray),t36⟩,_⟩:=hk;simp only [h36];clear h36;have HA:=hide (hs.1 hi);have HS:=hide hs;clear hs;go_wp2_with fail;refine (KD.out x HA.out).mono ?_;rintro e x2 ⟨s,K,rfl,hr,l2,h2,z2,k2⟩;have H2:=hide h2;have Z2:=hide z2;have K2:=hide k2;clear h2 z2 k2;go_wp2_with fail;exact zal _ rfl ⟨s,rfl⟩ (zlJ (by decide) (by decide) HS.out H2.out Z2.out K2.out ⟨s,K,rfl,hr,l2⟩ (fun i h1 h2 v y=>zCZ h1 (fun e=>by subst e;rw [zap hc hi 38 60 (by kernel_rfl)] at h2;cases h2) (fun e=>by subst e;rw [zap hc hi 39 60 (by kernel_rfl)] at h2;cases h2) (fun e=>by subst e;rw [zap hc hi 42 60 (by kernel_rfl)] at h2;cases h2) v y))
  ·obtain ⟨⟨h37,t37⟩,_⟩:=hk;obtain ⟨s,F,e7,hf⟩:C7 _ (vals 37) x:=hs.2.2.2.2 37 t37;simp only [e7];go_wp2_with fail;exact zal _ rfl ⟨s,rfl⟩ (zas (by decide) (by decide) (by decide) hs ⟨s,F,rfl,hf⟩)
  ·obtain ⟨⟨h38,t38⟩,_⟩:=hk;obtain ⟨s,F,e8,hf⟩:C7 _ (vals 38) x:=hs.2.2.2.2 38 t38;simp only [e8];go_wp2_with fail;exact zal _ rfl ⟨s,rfl⟩ (zas (by decide) (by decide) (by decide) hs ⟨s,F,rfl,hf⟩)
  ·obtain ⟨⟨h38,t38⟩,_,_⟩:=hk;obtain ⟨s,F,e8,hf⟩:C7 _ (vals 38) x:=hs.2.2.2.2 38 t38;simp only [e8];go_wp2_with fail;exact zal _ rfl rfl (zas (by decide) (by decide) (by decide) hs trivial)
  ·obtain ⟨⟨h38,t38⟩,_,_⟩:=hk;obtain ⟨s,F,e8,hf⟩:C7 _ (vals 38) x:=hs.2.2.2.2 38 t38;simp only [e8];go_wp2_with fail;exact zal _ rfl rfl (zas (by decide) (by decide) (by decide) hs trivial)
  ·obtain ⟨⟨h39,t39⟩,⟨h37,t37⟩,⟨(h0:vals 0=.pointer (some ⟨b,0,none⟩)),t0⟩,⟨(h1:vals 1=.pointer (some ⟨b,0,none⟩)),t1⟩,⟨(h2:vals 2=.pointer (some ⟨b,0,none⟩)),t2⟩,⟨(h3:vals 3=.pointer (some ⟨b,21,none⟩)),t3⟩,⟨(h4:vals 4=.pointer (some ⟨v,0,none⟩)),t4⟩,⟨(h5:vals 5=.pointer (some ⟨b,0,none⟩)),t5⟩,⟨(h6:vals 6=.pointer (some ⟨b,0,none⟩)),t6⟩,⟨(h7:vals 7=.pointer (some ⟨b,0,none⟩)),t7⟩,⟨(h8:vals 8=.pointer (some ⟨b,0,none⟩)),t8⟩,⟨(h9:vals 9=.agg (R15.rowG 0 (fun _=>0))),t9⟩,⟨(h10:vals 10=.pointer (some ⟨b,0,none⟩)),t10⟩,⟨(h11:vals 11=.pointer (some ⟨b,0,none⟩)),t11⟩,⟨(h12:vals 12=.pointer (some ⟨b,0,none⟩)),t12⟩,⟨(h13:vals 13=.pointer (some ⟨b,22,none⟩)),t13⟩,⟨(h14:vals 14=.agg (tabL fun _=>0).toArray),t14⟩,⟨(h15:vals 15=.pointer (some ⟨b,0,none⟩)),t15⟩,⟨(h16:vals 16=.pointer (some ⟨b,0,none⟩)),t16⟩,⟨(h17:vals 17=.pointer (some ⟨b,8483,none⟩)),t17⟩,⟨(h18:vals 18=.agg (V12.rowV 0 0 fun _=>0)),t18⟩,⟨(h19:vals 19=.pointer (some ⟨b,0,none⟩)),t19⟩,⟨(h20:vals 20=.pointer (some ⟨b,0,none⟩)),t20⟩,⟨(h21:vals 21=.pointer (some ⟨b,0,none⟩)),t21⟩,⟨(h22:vals 22=.pointer (some ⟨b,0,none⟩)),t22⟩,⟨(h23:vals 23=.pointer (some ⟨b,1,none⟩)),t23⟩,⟨(h24:vals 24=.pointer (some ⟨b,8,none⟩)),t24⟩,⟨(h25:vals 25=.int .i64 0),t25⟩,⟨(h26:vals 26=.pointer (some ⟨g,0,none⟩)),t26⟩,⟨(h27:vals 27=.pointer (some ⟨g,0,none⟩)),t27⟩,⟨(h28:vals 28=.pointer (some ⟨g,16,none⟩)),t28⟩,⟨(h29:vals 29=.int .i64 0),t29⟩,⟨(h30:vals 30=.int .i64 0),t30⟩,⟨(h31:vals 31=.pointer (some ⟨g,0,none⟩)),t31⟩,⟨(h32:vals 32=.pointer (some ⟨g,0,none⟩)),t32⟩,⟨(h33:vals 33=.pointer (some ⟨g,9,none⟩)),t33⟩,⟨(h34:vals 34=.pointer (some ⟨g,9,none⟩)),t34⟩,⟨(h35:vals 35=.int .i64 8),t35⟩,⟨(h36:vals 36=.agg (inL [.pointer (some ⟨v,0,none⟩)] (gL 0 fun _=>0) (tabL fun _=>0) (vL 0 0 fun _=>0) 0 0 0 8).toArray),t36⟩,_,⟨h38,t38⟩,_,_,_,_⟩:=hk;clear h0 h1 h2 h3 h4 h5 h6 h7 h8 h9 h10 h11 h12 h13 h14 h15 h16 h17 h18 h19 h20 h21 h22 h23 h24 h25 h26 h27 h28 h29 h30 h31 h32 h33 h34 h35 h36;obtain ⟨s,F,e9,hf⟩:C9 _ (vals 39) x:=hs.2.2.2.2 39 t39;simp only [e9];go_wp2_with fail;exact zal _ rfl ⟨s,rfl⟩ (zas (by decide) (by decide) (by decide) hs ⟨s,F,rfl,hf⟩)
  ·obtain ⟨⟨(h40:vals 40=.bool false),t40⟩,⟨h42,t42⟩,⟨(h0:vals 0=.pointer (some ⟨b,0,none⟩)),t0⟩,⟨(h1:vals 1=.pointer (some ⟨b,0,none⟩)),t1⟩,⟨(h2:vals 2=.pointer (some ⟨b,0,none⟩)),t2⟩,⟨(h3:vals 3=.pointer (some ⟨b,21,none⟩)),t3⟩,⟨(h4:vals 4=.pointer (some ⟨v,0,none⟩)),t4⟩,⟨(h5:vals 5=.pointer (some ⟨b,0,none⟩)),t5⟩,⟨(h6:vals 6=.pointer (some ⟨b,0,none⟩)),t6⟩,⟨(h7:vals 7=.pointer (some ⟨b,0,none⟩)),t7⟩,⟨(h8:vals 8=.pointer (some ⟨b,0,none⟩)),t8⟩,⟨(h9:vals 9=.agg (R15.rowG 0 (fun _=>0))),t9⟩,⟨(h10:vals 10=.pointer (some ⟨b,0,none⟩)),t10⟩,⟨(h11:vals 11=.pointer (some ⟨b,0,none⟩)),t11⟩,⟨(h12:vals 12=.pointer (some ⟨b,0,none⟩)),t12⟩,⟨(h13:vals 13=.pointer (some ⟨b,22,none⟩)),t13⟩,⟨(h14:vals 14=.agg (tabL fun _=>0).toArray),t14⟩,⟨(h15:vals 15=.pointer (some ⟨b,0,none⟩)),t15⟩,⟨(h16:vals 16=.pointer (some ⟨b,0,none⟩)),t16⟩,⟨(h17:vals 17=.pointer (some ⟨b,8483,none⟩)),t17⟩,⟨(h18:vals 18=.agg (V12.rowV 0 0 fun _=>0)),t18⟩,⟨(h19:vals 19=.pointer (some ⟨b,0,none⟩)),t19⟩,⟨(h20:vals 20=.pointer (some ⟨b,0,none⟩)),t20⟩,⟨(h21:vals 21=.pointer (some ⟨b,0,none⟩)),t21⟩,⟨(h22:vals 22=.pointer (some ⟨b,0,none⟩)),t22⟩,⟨(h23:vals 23=.pointer (some ⟨b,1,none⟩)),t23⟩,⟨(h24:vals 24=.pointer (some ⟨b,8,none⟩)),t24⟩,⟨(h25:vals 25=.int .i64 0),t25⟩,⟨(h26:vals 26=.pointer (some ⟨g,0,none⟩)),t26⟩,⟨(h27:vals 27=.pointer (some ⟨g,0,none⟩)),t27⟩,⟨(h28:vals 28=.pointer (some ⟨g,16,none⟩)),t28⟩,⟨(h29:vals 29=.int .i64 0),t29⟩,⟨(h30:vals 30=.int .i64 0),t30⟩,⟨(h31:vals 31=.pointer (some ⟨g,0,none⟩)),t31⟩,⟨(h32:vals 32=.pointer (some ⟨g,0,none⟩)),t32⟩,⟨(h33:vals 33=.pointer (some ⟨g,9,none⟩)),t33⟩,⟨(h34:vals 34=.pointer (some ⟨g,9,none⟩)),t34⟩,⟨(h35:vals 35=.int .i64 8),t35⟩,⟨(h36:vals 36=.agg (inL [.pointer (some ⟨v,0,none⟩)] (gL 0 fun _=>0) (tabL fun _=>0) (vL 0 0 fun _=>0) 0 0 0 8).toArray),t36⟩,⟨h37,t37⟩,⟨h38,t38⟩,⟨h39,t39⟩,_,_,_,_⟩:=hk;simp only [h40];clear h40 h0 h1 h2 h3 h4 h5 h6 h7 h8 h9 h10 h11 h12 h13 h14 h15 h16 h17 h18 h19 h20 h21 h22 h23 h24 h25 h26 h27 h28 h29 h30 h31 h32 h33 h34 h35 h36;go_wp2_with fail;exact zal _ rfl rfl (zas (by decide) (by decide) (by decide) hs trivial)
  ·obtain ⟨⟨(h41:vals 41=.bool false),t41⟩,⟨(h43:vals 43=.bool false),t43⟩,⟨(h0:vals 0=.pointer (some ⟨b,0,none⟩)),t0⟩,⟨(h1:vals 1=.pointer (some ⟨b,0,none⟩)),t1⟩,⟨(h2:vals 2=.pointer (some ⟨b,0,none⟩)),t2⟩,⟨(h3:vals 3=.pointer (some ⟨b,21,none⟩)),t3⟩,⟨(h4:vals 4=.pointer (some ⟨v,0,none⟩)),t4⟩,⟨(h5:vals 5=.pointer (some ⟨b,0,none⟩)),t5⟩,⟨(h6:vals 6=.pointer (some ⟨b,0,none⟩)),t6⟩,⟨(h7:vals 7=.pointer (some ⟨b,0,none⟩)),t7⟩,⟨(h8:vals 8=.pointer (some ⟨b,0,none⟩)),t8⟩,⟨(h9:vals 9=.agg (R15.rowG 0 (fun _=>0))),t9⟩,⟨(h10:vals 10=.pointer (some ⟨b,0,none⟩)),t10⟩,⟨(h11:vals 11=.pointer (some ⟨b,0,none⟩)),t11⟩,⟨(h12:vals 12=.pointer (some ⟨b,0,none⟩)),t12⟩,⟨(h13:vals 13=.pointer (some ⟨b,22,none⟩)),t13⟩,⟨(h14:vals 14=.agg (tabL fun _=>0).toArray),t14⟩,⟨(h15:vals 15=.pointer (some ⟨b,0,none⟩)),t15⟩,⟨(h16:vals 16=.pointer (some ⟨b,0,none⟩)),t16⟩,⟨(h17:vals 17=.pointer (some ⟨b,8483,none⟩)),t17⟩,⟨(h18:vals 18=.agg (V12.rowV 0 0 fun _=>0)),t18⟩,⟨(h19:vals 19=.pointer (some ⟨b,0,none⟩)),t19⟩,⟨(h20:vals 20=.pointer (some ⟨b,0,none⟩)),t20⟩,⟨(h21:vals 21=.pointer (some ⟨b,0,none⟩)),t21⟩,⟨(h22:vals 22=.pointer (some ⟨b,0,none⟩)),t22⟩,⟨(h23:vals 23=.pointer (some ⟨b,1,none⟩)),t23⟩,⟨(h24:vals 24=.pointer (some ⟨b,8,none⟩)),t24⟩,⟨(h25:vals 25=.int .i64 0),t25⟩,⟨(h26:vals 26=.pointer (some ⟨g,0,none⟩)),t26⟩,⟨(h27:vals 27=.pointer (some ⟨g,0,none⟩)),t27⟩,⟨(h28:vals 28=.pointer (some ⟨g,16,none⟩)),t28⟩,⟨(h29:vals 29=.int .i64 0),t29⟩,⟨(h30:vals 30=.int .i64 0),t30⟩,⟨(h31:vals 31=.pointer (some ⟨g,0,none⟩)),t31⟩,⟨(h32:vals 32=.pointer (some ⟨g,0,none⟩)),t32⟩,⟨(h33:vals 33=.pointer (some ⟨g,9,none⟩)),t33⟩,⟨(h34:vals 34=.pointer (some ⟨g,9,none⟩)),t34⟩,⟨(h35:vals 35=.int .i64 8),t35⟩,⟨(h36:vals 36=.agg (inL [.pointer (some ⟨v,0,none⟩)] (gL 0 fun _=>0) (tabL fun _=>0) (vL 0 0 fun _=>0) 0 0 0 8).toArray),t36⟩,⟨h37,t37⟩,⟨h38,t38⟩,⟨h39,t39⟩,⟨(h40:vals 40=.bool false),t40⟩,_,⟨h42,t42⟩,_,_⟩:=hk;simp only [h41];clear h41 h43 h0 h1 h2 h3 h4 h5 h6 h7 h8 h9 h10 h11 h12 h13 h14 h15 h16 h17 h18 h19 h20 h21 h22 h23 h24 h25 h26 h27 h28 h29 h30 h31 h32 h33 h34 h35 h36 h40;go_wp2_with fail;exact zal _ rfl rfl (zas (by decide) (by decide) (by decide) hs trivial)
 rintro vals dn x hall hs hv;have hb:=hs.2.1 (hall 37 (by decide));obtain ⟨_,_,_,_,_,_,_,_,_,_,_,_,_,_,_,_,_,_,_,_,_,_,_,_,_,_,_,_,_,_,_,_,_,_,_,_,_,_,_,_,_,_,_,(h43:vals 43=.bool false),(h44:vals 44=.bool false),_⟩:=hv;simp only [h43,h44];clear h43 h44;obtain ⟨s,K,e42,hr,ls⟩:C9 _ (vals 42) x:=hs.2.2.2.2 42 (hall 42 (by decide));simp only [e42];have H2:=hide (H1.out.next (AX.out x hb));have HR:=hide hr
 have LS:=hide (show q<s by
  obtain ⟨vL,vS,xs,t1,_⟩:=H1.out.2.1;have:=lt_of_block t1
  omega)
 clear hr ls e42 hb hs hall AX A0 CKX KV K8 K16 K9 QR QT QV KD ZR ZT ZV H1
 go_wp2_with (first
  |(go_at_call 11;refine (zwf H2.out.2.1 HR.out LS.out).mono ?_;rintro e w7 ⟨rfl,t7,b7⟩;have H7:=hide (H2.out.told t7 b7);clear t7 b7 H2 HR))
 go_end0;exact ⟨rfl,H7.out⟩
theorem zol (st lag:Int):ziY (YC st lag):=⟨fun _=>rfl,fun _=>rfl,rfl,rfl,fun _=>rfl⟩
theorem zDa (st lag:Int) (k:Nat) (hk:k<6):P22.soOf (YC st lag 11) k=false:=by
 rw [zfe _ _ 11 (by decide) (by decide)];rcases k with _|_|_|_|_|_|k<;>first|decide|omega
theorem yc_3' (lag:Int):YC 0 lag 3=L24.oneV 0:=by
 unfold YC;rw [zaC _ _ _ _ (by decide)];exact zcB _ _ _
theorem zzT (h:HasC w b v c d bs (YC 0 0) (fun _=>0)):HasM w b v c d bs zK:=by
 obtain ⟨R0,f0,l0,c0,m⟩:=h;rw [yc_0] at m;refine ⟨zgk m.1 fun k hk=>?_,m.2.1,zmN,m.2.2.2⟩;unfold cz;rw [zaC _ _ _ _ (by omega),zaC _ _ _ _ (by omega),zaC _ _ _ _ (by omega),zaC _ _ _ _ (by omega)]
 by_cases e:k=8
 ·subst e;rw [zcB];rfl
 ·rw [zaC _ _ _ _ e]
theorem CK.geo {pc:Nat} {tick wait back:Int} (h:CK w g b v c d bs Y M a p pc f l tick wait back):CK (w.setCells g 9 (#[.int .i64 8,.int .i64 3,.int .i64 4,.int .i64 4,.int .i64 262]:Array Value).toList) g b v c d bs Y M a p pc f l tick wait back:=by
 refine h.own (But.cells _ _ _ (But.refl g w)) ?_;have e:w.setCells g 9 (#[.int .i64 8,.int .i64 3,.int .i64 4,.int .i64 4,.int .i64 262]:Array Value).toList=(((((w.setCell ⟨g,9,none⟩ (.int .i64 8)).setCell ⟨g,10,none⟩ (.int .i64 3)).setCell ⟨g,11,none⟩ (.int .i64 4)).setCell ⟨g,12,none⟩ (.int .i64 4)).setCell ⟨g,13,none⟩ (.int .i64 262)):=by kernel_rfl
 rw [e];have k:=h.2.1;unfold HasK at k ⊢;obtain ⟨cc,hc⟩:∃cc,conC b (rg a 0 0 0 p (57344+(pc:Int))) f l 8 3 4 4 262 tick wait back=cc:=⟨_,rfl⟩
 rw [hc] at k ⊢;have k0:=heap_setCell_same w g 9 _ _ (.int .i64 8) k;have k1:=heap_setCell_same _ g 10 _ _ (.int .i64 3) k0;have k2:=heap_setCell_same _ g 11 _ _ (.int .i64 4) k1;have k3:=heap_setCell_same _ g 12 _ _ (.int .i64 4) k2;have k4:=heap_setCell_same _ g 13 _ _ (.int .i64 262) k3;refine k4.trans ?_;subst hc
 kernel_rfl
theorem zqn {pc:Nat} {tick wait back:Int}  (h:RK lo W w g b v c d q bs Y M a p pc f l tick wait back 0 ns) (hp:ziY Y):Calls Tryz.prog 28 #[.pointer (some ⟨g,0,none⟩),.int .i64 3,.func (.func 11) #[] #[.pointer (some ⟨q,0,none⟩)]] w fun e w'=>e=Ending.returned (.tuple #[])∧RK lo W w' g b v c d q bs Y M a p pc f l tick wait 0 1 ns:=by
 have H:=hide h
 have RG:=hide (zcW h.1.2.1 9 (#[.int .i64 8,.int .i64 3,.int .i64 4,.int .i64 4,.int .i64 262]:Array Value).toList (by
  intro j y hy
  rcases j with _|_|_|_|_|j<;>first|exact hy|exact absurd hy (by simp)))
 have KS:=hide (fun u=>ziG 8 3 4 4 262 3 u (by decide) (by decide));rw [show zgX 3 4 3=0 by decide] at KS;have KM:=hide (fun (u:World) (hu:CK u g b v c d bs Y M a p pc f l tick wait back)=>zmS hu hp);have KW:=hide (fun (u:World) (hu:RK lo W u g b v c d q bs Y M a p pc f l tick wait 0 0 ns)=>zzS hu hp);clear h hp;go_enter Tryz.func28,Tryz.ntmps28
 go_wp2_with (first
  |(refine wpList_load_mid rfl 67 (.tmp 9) rfl g 9 rfl _ _ RG.out Tryz.underlying67 rfl (by kernel_rfl) ?_)
  |(go_at_call 56;refine (KS.out _).mono ?_;rintro e w1 ⟨rfl,b1⟩;have H1:=hide (H.out.next b1);clear b1 KS H)
  |(go_at_call 57;refine (KM.out _ H1.out.1).mono ?_;rintro e w2 ⟨rfl,k2,o2⟩;have H2:=hide (H1.out.ck k2 o2);clear k2 o2 KM H1)
  |(go_at_call 58;refine (KW.out _ H2.out).mono ?_;rintro e w3 ⟨rfl,h3⟩;have H3:=hide h3;have k12:=h3.1.2.1.at 12 (y:=.int .i64 4) rfl;clear h3 KW H2))
 go_end0;exact ⟨rfl,H3.out⟩
def st0 (T:Nat):Int:=if T≤5460 then 0 else 32
def st1 (T:Nat):Int:=if T<5460 then 0 else 32
def nl0 (T:Nat):Nat:=if T≤4095 then 0 else 1
def nl1 (T:Nat):Nat:=if T<4095 then 0 else 1
def PH (tk T j:Nat) (wait:Int):Prop:=(j=0∧T=0∧wait=0)∨(1≤j∧tk*UJ (j-1)<T∧T≤tk*UJ j∧wait=((tk*UJ j:Nat):Int)-T∧wait≤72)
def PM (tk T j:Nat) (wait:Int):Prop:=1≤j∧tk*UJ (j-1)≤T∧T<tk*UJ j∧wait=((tk*UJ j:Nat):Int)-T∧wait≤72
def GI (lo:Nat) (W:World) (g b v c d q:Nat) (bs:List Int) (F:Bool) (T:Nat) (st:Int) (nl:Nat) (P:Nat→Int→Prop) (w:World):Prop:=
 ∃(j:Nat) (M:Nat→Int) (p wait lag:Int) (ns:Nat),RK lo W w g b v c d q bs (YC st lag) M (aJ j) p (pcJ j) (fJ F j) (lJ j) (T:Int) wait 0 nl ns∧P j wait∧M 16=(nJ j:Int)∧zao p∧(0≤lag∧lag≤(T:Int))∧ns≤T∧(T=0→M=(fun _=>0)∧lag=0)
def GE (lo:Nat) (W:World) (g b v c d q:Nat) (bs:List Int) (F:Bool) (T:Nat) (st:Int) (nl:Nat) (P:Nat→Int→Prop) (w:World):Prop:=
 ∃(j:Nat) (M:Nat→Int) (p wait:Int) (ns:Nat),RK lo W w g b v c d q bs (YC st 0) M (aJ j) p (pcJ j) (fJ F j) (lJ j) (T:Int) wait 0 nl ns∧P j wait∧M 16=(nJ j:Int)∧ns≤T
def tkF (F:Bool):Nat:=if F then 3 else 12
theorem zxz (F:Bool):3≤tkF F∧tkF F≤12:=by cases F<;>decide
theorem zxA (j:Nat):2≤cyJ j∧cyJ j≤6:=by
 unfold cyJ
 (repeat' split)<;>omega
theorem ph_le {wait:Int} (h:PH (tkF F) T j wait) (hT:T≤641*tkF F):j≤300:=by
 rcases h with ⟨rfl,_⟩|⟨h1,h2,_⟩
 ·decide
 ·have k:UJ (j-1)<641:=by
   cases F
   ·change 12*UJ (j-1)<T at h2;change T≤641*12 at hT;omega
   ·change 3*UJ (j-1)<T at h2;change T≤641*3 at hT;omega
  unfold UJ at k
  (repeat' split at k)<;>omega
theorem zDb (F:Bool) (j:Nat):(if fJ F (j+1)=true then 3*(cyJ j:Int) else 12*(cyJ j:Int))=((tkF F*cyJ j:Nat):Int):=by
 have e:fJ F (j+1)=F:=by unfold fJ;rw [if_neg (by omega)]
 rw [e];cases F
 ·show (12:Int)*(cyJ j:Int)=((12*cyJ j:Nat):Int);omega
 ·show (3:Int)*(cyJ j:Int)=((3*cyJ j:Nat):Int);omega
theorem zzU (h:PH (tkF F) T j 0):PM (tkF F) T (j+1) ((tkF F*cyJ j:Nat):Int):=by
 have t:=zxz F;have c:=zxA j;have e:tkF F*UJ (j+1)=tkF F*UJ j+tkF F*cyJ j:=by rw [zzI,Nat.mul_add]
 have m:=Nat.mul_le_mul t.2 c.2;have m2:=Nat.mul_le_mul t.1 c.1;have eT:T=tkF F*UJ j:=by
  rcases h with ⟨rfl,rfl,_⟩|⟨_,_,_,h4,_⟩
  ·rfl
  ·omega
 refine ⟨by omega,?_,?_,?_,?_⟩
 ·rw [show j+1-1=j by omega];omega
 ·omega
 ·omega
 ·omega
theorem zzV {wait:Int} (h:PH (tkF F) T j wait) (hw:¬wait=0):PM (tkF F) T j wait:=by
 rcases h with ⟨_,_,h3⟩|⟨h1,h2,h3,h4,h5⟩
 ·exact absurd h3 hw
 ·exact ⟨h1,by omega,by omega,h4,h5⟩
theorem zzW {fr:Nat} {wait:Int} (h:PM (tkF F) T j wait) (h1:1≤fr) (h2:(fr:Int)≤wait):PH (tkF F) (T+fr) j (wait-fr):=by
 obtain ⟨a,b,c,d,e⟩:=h;exact .inr ⟨a,by omega,by omega,by omega,by omega⟩
theorem zzX (hc:ztG bs F) (N:Nat) (hN:N≤641*tkF F) (h:GI lo W g b v c d q bs F 0 0 0 (PH (tkF F) 0) w):
  Calls Tryz.prog 13 #[.pointer (some ⟨g,0,none⟩),.int .i64 (N:Int),.func (.func 11) #[] #[.pointer (some ⟨q,0,none⟩)],.func (.func 12) #[] #[.pointer (some ⟨q,0,none⟩)]] w fun e w'=>e=Ending.returned (.tuple #[])∧GE lo W g b v c d q bs F N (st0 N) (nl0 N) (PH (tkF F) N) w':=by
 have N8:N≤7692:=by unfold tkF at hN;split at hN<;>omega
 have HC:=hide hc;have HN:=hide hN;have H0:=hide h;clear hc hN h;go_enter Tryz.func13,Tryz.ntmps13;go_wp2_with fail;go_loopw [1] (fun s1 wr=>∃T:Nat,T≤N∧s1=.int .i64 ((N:Int)-(T:Int))∧GI lo W g b v c d q bs F T (st0 T) (nl0 T) (PH (tkF F) T) wr) (fun s1 _=>(intOf s1).toNat)
 case atStart=>exact ⟨0,Nat.zero_le _,by go_num,H0.out⟩
 case round=>
  obtain ⟨T,hT,rfl,hG⟩:=hrel;clear H0
  by_cases hlt:T<N
  ·obtain ⟨j,M,p,wait,lag,ns,h,hP,hM,hp,hlag,hns,h0⟩:=hG;have c14:=h.1.2.1.at 14 (y:=.int .i64 (T:Int)) rfl;have H:=hide h;have HP:=hide hP;have H0:=hide h0;have HM:=hide hM;have Hp:=hide hp;have HL:=hide hlag;clear h hP h0 hM hp hlag;go_upto_if 17 with fail;go_cut [] from 13 to 25 (fun wx=>RK lo W wx g b v c d q bs (YC (st0 T) lag) M (aJ j) p (pcJ j) (fJ F j) (lJ j) (T:Int) wait 0 (nl0 T) ns)
   case first=>
    by_cases hT0:T=0
    ·obtain ⟨rfl,rfl⟩:=H0.out hT0;have es:st0 T=0:=by subst hT0;rfl
     have e0:((T:Int)==0)=true:=by subst hT0;rfl
     have c8:=H.out.1.2.1.at 8 (y:=.pointer (some ⟨b,0,none⟩)) rfl;have KG:=hide (ziH (zzT (es▸H.out.1.1)));clear es hT0
     go_wp2_with (first
      |(go_at_call 26;refine KG.out.mono ?_;rintro e w2 ⟨rfl,b2⟩;have H2:=hide (H.out.next b2);clear b2)
      |(refine wpList_store_mid rfl 67 (.tmp 25) (.tmp 23) rfl g 9 #[.int .i64 8,.int .i64 3,.int .i64 4,.int .i64 4,.int .i64 262] rfl rfl (H2.out.1.there 9 5 (by decide)) (by kernel_rfl) (by kernel_rfl) ?_))
     go_meet;exact H2.out.ck H2.out.1.geo (eg_g (But.cells _ _ _ (But.refl g _)))
    ·have e0:((T:Int)==0)=false:=by simpa using hT0
     go_wp2_with fail;go_meet;exact H.out
   have H1:=hide hcut;clear hcut H c14;have c14:=H1.out.1.2.1.at 14 (y:=.int .i64 (T:Int)) rfl;have KL:=hide (fun u=>zvY (T:Int) u (by omega) (by omega))
   go_upto_if 35 with (first
    |(go_at_call 27;refine (KL.out _).mono ?_;rintro e w3 ⟨rfl,hw⟩;subst w3))
   have B5:0≤(T:Int)/1365∧(T:Int)/1365≤5:=by omega
   go_cut [8,9] from 26 to 39 (fun s8 s9 wx=>RK lo W wx g b v c d q bs (YC (st1 T) lag) M (aJ j) p (pcJ j) (fJ F j) (lJ j) (T:Int) wait 0 (nl1 T) ns)
   case first=>
    by_cases hm:(T:Int)%1365=0
    ·have e0:((T:Int)%1365==0)=true:=by simpa using hm
     obtain ⟨n,hn⟩:∃n:Int,(T:Int)/1365=n:=⟨_,rfl⟩
     have hTn:=hide (show (T:Int)=n*1365 by omega);rw [hn] at B5 ⊢;have KB0:=hide (fun (u:World) hu (h1:¬n=3) (h2:¬n=4)=>zwE (w:=u) (g:=g) (b:=b) (v:=v) (c:=c) (d:=d) (bs:=bs) (Y:=YC (st0 T) lag) (M:=M) (a:=aJ j) (p:=p) (pc:=pcJ j) (f:=fJ F j) (l:=lJ j) (tick:=(T:Int)) (wait:=wait) (back:=0) hu n (by unfold zgX;rw [if_neg (by omega)]) h2 (.func (.func 11) #[] #[.pointer (some ⟨q,0,none⟩)]));clear hn
     by_cases n3:n=3
     ·subst n3;have eT:=hide (show T=4095 by have:=hTn.out;omega);have KW:=hide (fun (u:World) hu=>zqn (w:=u) (lo:=lo) (W:=W) (g:=g) (b:=b) (v:=v) (c:=c) (d:=d) (q:=q) (bs:=bs) (Y:=YC (st0 T) lag) (M:=M) (a:=aJ j) (p:=p) (pc:=pcJ j) (f:=fJ F j) (l:=lJ j) (tick:=(T:Int)) (wait:=wait) (back:=0) (ns:=ns) hu (zol _ _));have H1':=H1.out;rw [show nl0 T=0 by rw [eT.out];rfl] at H1';replace H1:=hide H1';clear KB0 H1'
      go_wp2_with (first
       |(go_at_call 28;refine (KW.out _ H1.out).mono ?_;rintro e w4 ⟨rfl,h4⟩;have H4:=hide h4;clear h4 KW))
      go_meet;rw [show st1 T=st0 T by rw [eT.out];rfl,show nl1 T=1 by rw [eT.out];rfl];exact H4.out
     ·by_cases n4:n=4
      ·subst n4;have eT:=hide (show T=5460 by have:=hTn.out;omega);have H1':=H1.out;rw [show st0 T=0 by rw [eT.out];rfl] at H1';replace H1:=hide H1';have KW:=hide (fun (u:World) hu=>ztY (w:=u) (g:=g) (b:=b) (v:=v) (c:=c) (d:=d) (bs:=bs) (Y:=YC 0 lag) (M:=M) (a:=aJ j) (p:=p) (pc:=pcJ j) (f:=fJ F j) (l:=lJ j) (tick:=(T:Int)) (wait:=wait) (back:=0) hu (zol _ _) (yc_3' _) (.func (.func 11) #[] #[.pointer (some ⟨q,0,none⟩)]));clear KB0 H1'
       go_wp2_with (first
        |(go_at_call 28;refine (KW.out _ H1.out.1).mono ?_;rintro e w4 ⟨rfl,k4,o4⟩;have H4:=hide (H1.out.ck k4 o4);clear k4 o4 KW))
       go_meet;have H4':=H4.out;rw [yc_3] at H4';rw [show st1 T=32 by rw [eT.out];rfl,show nl1 T=nl0 T by rw [eT.out];rfl];exact H4'
      ·go_wp2_with (first
        |(go_at_call 28;refine (KB0.out _ H1.out.1 n3 n4).mono ?_;rintro e w4 ⟨rfl,b4⟩;have H4:=hide (H1.out.next b4);clear b4 KB0))
       go_meet;have hT3:=hTn.out;have e1:st1 T=st0 T:=by unfold st0 st1;split<;>split<;>omega
       have e2:nl1 T=nl0 T:=by unfold nl0 nl1;split<;>split<;>omega
       rw [e1,e2];exact H4.out
    ·have e0:((T:Int)%1365==0)=false:=by simpa using hm
     go_wp2_with fail;go_meet;have e1:st1 T=st0 T:=by unfold st0 st1;split<;>split<;>omega
     have e2:nl1 T=nl0 T:=by unfold nl0 nl1;split<;>split<;>omega
     rw [e1,e2];exact H1.out
   have H2:=hide hcut;clear hcut H1 c14;have c15:=H2.out.1.2.1.at 15 (y:=.int .i64 wait) rfl;go_upto_if 44 with fail;go_cut [] from 40 to 46 (fun wx=>∃(j':Nat) (M':Nat→Int) (p' wait' lag':Int),RK lo W wx g b v c d q bs (YC (st1 T) lag') M' (aJ j') p' (pcJ j') (fJ F j') (lJ j') (T:Int) wait' 0 (nl1 T) ns∧PM (tkF F) T j' wait'∧M' 16=(nJ j':Int)∧zao p'∧(0≤lag'∧lag'≤(T:Int)))
   case first=>
    by_cases hw:wait=0
    ·have e0:(wait==0)=true:=by simpa using hw
     have HP0:=HP.out;rw [hw] at HP0;have PP:=hide (zzU HP0);obtain ⟨M',p',hg,hM',hp'⟩:=zzK HC.out (st1 T) Hp.out j (ph_le HP.out (by have:=HN.out;omega)) HM.out;have KS:=hide (cstep H2.out.1 (zxu _ _) hg (by have:=zxA j;omega) (zDb F j));have HM':=hide hM';have Hp':=hide hp';have HT0:=hide (show (0:Int)≤0∧(0:Int)≤(T:Int) by omega);clear hw HP0 hg hM' hp'
     go_wp2_with (first
      |(go_at_call 29;refine KS.out.mono ?_;rintro e w4 ⟨rfl,k4,o4⟩;have H4:=hide (H2.out.ck k4 o4);clear k4 o4 KS))
     go_meet;exact ⟨j+1,M',p',_,0,H4.out,PP.out,HM'.out,Hp'.out,HT0.out⟩
    ·have e0:(wait==0)=false:=by simpa using hw
     have PP:=hide (zzV HP.out hw);go_wp2_with fail;go_meet;exact ⟨j,M,p,wait,lag,H2.out,PP.out,HM.out,Hp.out,HL.out⟩
   obtain ⟨j',M',p',wait',lag',h3,hPM,hM3,hp3,hl3⟩:=hcut;have H3:=hide h3;have PM3:=hide hPM;have M3:=hide hM3;have P3:=hide hp3;have L3:=hide hl3;have w1:0<wait'∧wait'≤72:=by obtain ⟨_,_,a,b,c⟩:=hPM;omega
   clear h3 hPM hM3 hp3 hl3 H2 HP H0 HM Hp HL c15;obtain ⟨X,hX⟩:∃X:Int,(N:Int)-(T:Int)=X:=⟨_,rfl⟩
   obtain ⟨fr,hf⟩:∃fr:Nat,(if 455-(T:Int)%455<(if wait'<X then wait' else X) then 455-(T:Int)%455 else (if wait'<X then wait' else X))=(fr:Int)∧1≤fr∧fr≤455∧(fr:Int)≤wait'∧(fr:Int)≤X∧(T:Int)%455+fr≤455:=by
    refine ⟨(if 455-(T:Int)%455<(if wait'<X then wait' else X) then 455-(T:Int)%455 else (if wait'<X then wait' else X)).toNat,?_⟩;split<;>split<;>omega
   have E1:=hide hf.1;have E2:=hide hf.2;have HX:=hide hX;obtain ⟨ns',hn1,hn0⟩:∃ns',(((T:Int)+(fr:Int))%455=0→ns'=ns+1)∧(¬((T:Int)+(fr:Int))%455=0→ns'=ns):=by
    by_cases e:((T:Int)+(fr:Int))%455=0
    ·exact ⟨ns+1,fun _=>rfl,fun k=>absurd e k⟩
    ·exact ⟨ns,fun k=>absurd k e,fun _=>rfl⟩
   have NS:=hide (show ns'≤T+fr by
    by_cases e:((T:Int)+(fr:Int))%455=0
    ·rw [hn1 e];have:=hf.2;omega
    ·rw [hn0 e];omega)
   have KP:=hide (fun (u:World) hu=>zzQ (w:=u) (lo:=lo) (W:=W) (g:=g) (b:=b) (v:=v) (c:=c) (d:=d) (q:=q) (bs:=bs) (Y:=YC (st1 T) lag') (M:=M') (a:=aJ j') (p:=p') (pc:=pcJ j') (f:=fJ F j') (l:=lJ j') (tick:=(T:Int)) (wait:=wait') (back:=0) (nl:=nl1 T) (ns:=ns) hu (fr:Int) (by have:=hf.2;omega) (by have:=hf.2;omega) (by omega) (by show 0≤lag'∧lag'≤1000000;have:=L3.out;omega) (zDa _ _) (by omega) hn1 hn0);have C15:=hide (fun (u:World) (hb:Below wc.heap.size wc u)=>(H3.out.next hb).1.2.1.at 15 (y:=.int .i64 wait') rfl);have C14:=hide (fun (u:World) (hb:Below wc.heap.size wc u)=>(H3.out.next hb).1.2.1.at 14 (y:=.int .i64 (T:Int)) rfl);rw [hX];clear hf hX hn1 hn0 w1;go_wp2_with fail;refine zbT (zlG [eqF (.int .i64 X),eqF (.pointer (some ⟨g,0,none⟩)),eqF (.pointer (some ⟨g,0,none⟩)),eqF (.pointer (some ⟨g,15,none⟩)),eqF (.int .i64 wait'),eqF (.pointer (some ⟨g,0,none⟩)),eqF (.pointer (some ⟨g,0,none⟩)),eqF (.pointer (some ⟨g,14,none⟩)),eqF (.int .i64 (T:Int)),eqF (.int .i64 ((T:Int)%455)),eqF (.int .i64 (455-(T:Int)%455)),eqF (.int .i64 (fr:Int)),eqF (.int .i64 (fr:Int))]) _ (fun vals=>by simp only [List.append_eq,List.cons_append,List.nil_append,zaA,Act.put,List.setIfInBounds_toArray,List.set_cons_succ,List.set_cons_zero,Nat.reduceAdd];rfl) (by kernel_rfl) (by kernel_rfl) (by kernel_rfl) (zdS (by simp only [List.mem_cons,List.not_mem_nil,or_false,forall_eq_or_imp,forall_eq];refine ⟨zae,zae,zae,zae,zae,zae,zae,zae,zae,zae,zae,zae,zae⟩)) ?_ ?_
   ·refine zab (fun vals u hb hf=>?_) (zab (fun vals u hb hf=>?_) (zab (fun vals u hb hf=>?_) (zab (fun vals u hb hf=>?_) (zab (fun vals u hb hf=>?_) (zab (fun vals u hb hf=>?_) (zab (fun vals u hb hf=>?_) (zab (fun vals u hb hf=>?_) (zab (fun vals u hb hf=>?_) (zab (fun vals u hb hf=>?_) (zab (fun vals u hb hf=>?_) (zab (fun vals u hb hf=>?_) (zab (fun vals u hb hf=>?_) zcb))))))))))))
    ·go_wp2_with fail;exact zaa _ rfl rfl (Below.refl _ _)
    ·go_wp2_with fail;exact zaa _ rfl rfl (Below.refl _ _)
    ·obtain ⟨(h1:vals 1=.pointer (some ⟨g,0,none⟩)),_⟩:=hf;simp only [h1];clear h1;go_wp2_with fail;exact zaa _ rfl rfl (Below.refl _ _)
    ·obtain ⟨(h2:vals 2=.pointer (some ⟨g,0,none⟩)),_⟩:=hf;simp only [h2];clear h2;go_wp2_with fail;exact zaa _ rfl rfl (Below.refl _ _)
    ·obtain ⟨(h3:vals 3=.pointer (some ⟨g,15,none⟩)),_⟩:=hf;simp only [h3];clear h3;have q:=C15.out u hb;go_wp2_with fail;exact zaa _ rfl rfl (Below.refl _ _)
    ·go_wp2_with fail;exact zaa _ rfl rfl (Below.refl _ _)
    ·obtain ⟨(h5:vals 5=.pointer (some ⟨g,0,none⟩)),_⟩:=hf;simp only [h5];clear h5;go_wp2_with fail;exact zaa _ rfl rfl (Below.refl _ _)
    ·obtain ⟨(h6:vals 6=.pointer (some ⟨g,0,none⟩)),_⟩:=hf;simp only [h6];clear h6;go_wp2_with fail;exact zaa _ rfl rfl (Below.refl _ _)
    ·obtain ⟨(h7:vals 7=.pointer (some ⟨g,14,none⟩)),_⟩:=hf;simp only [h7];clear h7;have q:=C14.out u hb;go_wp2_with fail;exact zaa _ rfl rfl (Below.refl _ _)
    ·obtain ⟨(h8:vals 8=.int .i64 (T:Int)),_⟩:=hf;simp only [h8];clear h8;go_wp2_with fail;exact zaa _ rfl rfl (Below.refl _ _)
    ·obtain ⟨(h9:vals 9=.int .i64 ((T:Int)%455)),_⟩:=hf;simp only [h9];clear h9;go_wp2_with fail;exact zaa _ rfl rfl (Below.refl _ _)
    ·obtain ⟨(h0:vals 0=.int .i64 X),(h4:vals 4=.int .i64 wait'),(h10:vals 10=.int .i64 (455-(T:Int)%455)),_⟩:=hf;simp only [h0,h4,h10];clear h0 h4 h10;have q:=E1.out;go_wp2_with fail;exact zaa _ rfl rfl (Below.refl _ _)
    ·obtain ⟨(h11:vals 11=.int .i64 (fr:Int)),(h0:vals 0=.int .i64 X),(h1:vals 1=.pointer (some ⟨g,0,none⟩)),(h2:vals 2=.pointer (some ⟨g,0,none⟩)),(h3:vals 3=.pointer (some ⟨g,15,none⟩)),(h4:vals 4=.int .i64 wait'),(h5:vals 5=.pointer (some ⟨g,0,none⟩)),(h6:vals 6=.pointer (some ⟨g,0,none⟩)),(h7:vals 7=.pointer (some ⟨g,14,none⟩)),(h8:vals 8=.int .i64 (T:Int)),(h9:vals 9=.int .i64 ((T:Int)%455)),(h10:vals 10=.int .i64 (455-(T:Int)%455)),_,_⟩:=hf;simp only [h11,h0,h1,h2,h3,h4,h5,h6,h7,h8,h9,h10];clear h11 h0 h1 h2 h3 h4 h5 h6 h7 h8 h9 h10;go_wp2_with fail;exact zaa _ rfl rfl (Below.refl _ _)
   rintro vals wq hb hall;obtain ⟨_,_,_,_,_,_,_,_,_,_,_,_,(h12:vals 12=.int .i64 (fr:Int)),_⟩:=hall;simp only [h12];clear h12;have H4:=hide (H3.out.next hb);clear hb H3 C15 C14
   go_wp2_with (first
    |(go_at_call 30;refine (KP.out _ H4.out).mono ?_;rintro e w5 ⟨rfl,h5⟩;have H5:=hide h5;clear h5 KP H4))
   have hf:=E2.out;have hX:=HX.out;have ew:wrap64 (X-(fr:Int))=(N:Int)-((T+fr:Nat):Int):=by unfold wrap64;omega
   have es:st0 (T+fr)=st1 T:=by unfold st0 st1;split<;>split<;>omega
   have en:nl0 (T+fr)=nl1 T:=by unfold nl0 nl1;split<;>split<;>omega
   have h6:=H5.out;rw [zCO,show YC (st1 T) lag' 17 0=lag' from rfl,show (T:Int)+(fr:Int)=((T+fr:Nat):Int) by omega] at h6;refine ⟨⟨T+fr,by omega,by rw [ew],j',M',p',wait'-(fr:Int),lag'+(fr:Int),ns',?_,zzW PM3.out hf.1 hf.2.2.1,M3.out,P3.out,by have:=L3.out;omega,NS.out,fun e=>by omega⟩,?_⟩
   ·rw [es,en];exact h6
   ·show (wrap64 (X-(fr:Int))).toNat<((N:Int)-(T:Int)).toNat;rw [ew];omega
  ·obtain rfl:T=N:=by omega
   obtain ⟨j,M,p,wait,lag,ns,h,hP,hM,hp,hlag,hns,h0⟩:=hG;have H:=hide h;have HP:=hide hP;have HM:=hide hM;have Hp:=hide hp;have HL:=hide hlag;have H00:=hide h0;have c8:=h.1.2.1.at 8 (y:=.pointer (some ⟨b,0,none⟩)) rfl;have et:((T:Int)-(T:Int))=0:=by omega
   rw [et];obtain ⟨⟨R0,f0,l0,c0,m⟩,k2,k3,k4⟩:=h.1;have KS:=hide (znC m.1);have MM:=hide m;have KK:=hide (And.intro k2 (And.intro k3 k4));clear h hP hM hp hlag h0 m k2 k3 k4 et
   go_wp2_with (first
    |(go_at_call 31;refine KS.out.mono ?_;rintro e w2 ⟨rfl,p2,o2⟩;have P2:=hide p2;have O2:=hide o2;clear p2 o2 KS))
   go_end0;have ez:setZ (cz (YC (st0 T) lag) M R0 f0 l0 c0)=cz (YC (st0 T) 0) M R0 f0 l0 c0:=by rw [zsV,zxu]
   have p3:=P2.out;rw [ez] at p3;have gd:∀k,GZ k (cz (YC (st0 T) 0) M R0 f0 l0 c0 k):=by rw [←ez];exact zfb MM.out.2.2.1
   have s:=O2.out.size;have ck:CK w2 g b v c d bs (YC (st0 T) 0) M (aJ j) p (pcJ j) (fJ F j) (lJ j) (T:Int) wait 0:=
    ⟨⟨R0,f0,l0,c0,MM.out.bus p3 O2.out gd⟩,O2.out.obj KK.out.1 (fun e=>by have:=KK.out.2.1;rcases e with e|e<;>omega),KK.out.2.1,by have:=KK.out.2.2;omega⟩
   exact ⟨rfl,j,M,p,wait,ns,H.out.ck ck (zlK O2.out),HP.out,HM.out,hns⟩
theorem vz_Y (st:Int) (hs:st≤63) (M R0:Nat→Int) (f0 l0 c0:Int):VZ (cz (YC st 0) M R0 f0 l0 c0):=by
 have e:∀k,k<20→k≠3→k≠8→k≠17→cz (YC st 0) M R0 f0 l0 c0 k=zK k:=fun k hk h3 h8 h17=>by
  rw [zlP k hk,zaC _ _ _ _ h8,zfe _ _ k h3 h17]
 obtain ⟨v1,v2,v3,v4,v5,v6,v7,v8,v9⟩:=vz_K;have e3:cz (YC st 0) M R0 f0 l0 c0 3 0=st:=by
  rw [zlP 3 (by decide),zaC _ _ _ _ (by decide)];rfl
 have e17:cz (YC st 0) M R0 f0 l0 c0 17 0=0:=by
  rw [zlP 17 (by decide),zaC _ _ _ _ (by decide)];rfl
 unfold VZ;rw [e 7 (by decide) (by decide) (by decide) (by decide),e 2 (by decide) (by decide) (by decide) (by decide),e 9 (by decide) (by decide) (by decide) (by decide),e 10 (by decide) (by decide) (by decide) (by decide),e 15 (by decide) (by decide) (by decide) (by decide),e 14 (by decide) (by decide) (by decide) (by decide),e 0 (by decide) (by decide) (by decide) (by decide),e3,e17];exact ⟨v1,v2,hs,v4,v5,v6,v7,rfl,v9⟩
theorem zDc {pc:Nat} {tick wait back:Int} (h:CK w g b v c d bs Y M a p pc f l tick wait back):CK (w.setCells g 0 (#[.int .i64 0,.int .i64 0,.int .i64 0,.int .i64 0,.int .i64 4,.int .i64 57344,.bool false,.int .i64 0]:Array Value).toList) g b v c d bs Y M 0 4 0 false 0 tick wait back:=by
 have k:=h.core (a':=0) (p':=4) (q':=0) (f':=false) (l':=0);rw [show (57344:Int)+((0:Nat):Int)=57344 from rfl] at k;exact k
theorem zom {st:Int} {pc:Nat}  {tick wait back:Int} (h:CK w g b v c d bs (YC st 0) M a p pc f l tick wait back) (hs:st≤63) (hl:bs.length=8192) (hpc:jn (KB bs 8190) (KB bs 8191)=57344):
  Calls Tryz.prog 6 #[.pointer (some ⟨g,0,none⟩)] w fun e w'=>e=Ending.returned (.tuple #[])∧CK w' g b v c d bs (YC st 0) M 0 4 0 false 0 tick 0 back∧OnlyE (EG b v g) w w':=by
 have H:=hide h;obtain ⟨R0,f0,l0,c0,m⟩:=h.1;have KM:=hide (zhi h.2.1 m (vz_Y st hs M R0 f0 l0 c0));have KS:=hide (fun (u:World) hu=>zoa (w:=u) (b:=b) (v:=v) (c:=c) (d:=d) (bs:=bs) (Y:=YC st 0) (M:=M) hu (zxv hl st 0) (zfe st 0 9 (by decide) (by decide)) hpc);clear h m;go_enter Tryz.func6,Tryz.ntmps6
 go_wp2_with (first
  |(go_at_call 15;refine KM.out.mono ?_;rintro e w1 ⟨rfl,b1⟩;have H1:=hide (H.out.next b1);have O1:=hide (zei (b:=b) (v:=v) (g:=g) b1);have c8:=(H.out.next b1).2.1.at 8 (y:=.pointer (some ⟨b,0,none⟩)) rfl;clear b1 KM H)
  |(go_at_call 16;refine (KS.out _ H1.out.1).mono ?_;rintro e w2 ⟨rfl,h2,o2⟩
    have H2:=hide (show CK w2 g b v c d bs (YC st 0) M a p pc f l tick wait back from (by
     have n:=H1.out.2.2.1;have s:=o2.size;have m:=H1.out.2.2.2
     exact ⟨h2,o2.obj H1.out.2.1 (fun e=>by rcases e with e|e<;>omega),n,by omega⟩))
    have O2:=hide (O1.out.trans (zlK o2))
    clear h2 o2 KS c8 O1)
  |(refine wpList_store_mid rfl 64 (.tmp 12) (.tmp 10) rfl g 0 #[.int .i64 0,.int .i64 0,.int .i64 0,.int .i64 0,.int .i64 4,.int .i64 57344,.bool false,.int .i64 0] rfl rfl (H2.out.there 0 8 (by decide)) (by kernel_rfl) (by kernel_rfl) ?_
    obtain ⟨w3,hw3⟩:∃w3,w3=w2.setCells g 0 (#[.int .i64 0,.int .i64 0,.int .i64 0,.int .i64 0,.int .i64 4,.int .i64 57344,.bool false,.int .i64 0]:Array Value).toList:=⟨_,rfl⟩
    rw [←hw3];have H3:=hide (show CK w3 g b v c d bs (YC st 0) M 0 4 0 false 0 tick wait back by rw [hw3];exact zDc H2.out);have O3:=hide (show OnlyE (EG b v g) w w3 by rw [hw3];exact O2.out.trans (eg_g (But.cells _ _ _ (But.refl g w2))));clear hw3 H2 O2;have c15:=H3.out.2.1.at 15 (y:=.int .i64 wait) rfl
    have f15:=frozen_of_row _ g 15 _ _ H3.out.2.1))
 go_end0;exact ⟨rfl,H3.out.wait 0,O3.out.trans (eg_g ((But.refl g _).set 15 _))⟩
open A2 B4 C3 G6 I11 J23 K9 L24 M5 N21 N8 O7 P22 R15 T10 V12 W13
theorem zqo (n:Nat) (hn:n≤1) (w:World):
  (Instr.makeSlice 25 (.int .i64 (n:Int)) (.int .i64 (n:Int))).run Tryz.prog w=.ok (.slice (some ⟨w.heap.size,0,none⟩) n n) (w.alloc (.cells (rowF (fun _=>.slice none 0 0) n) 77)):=by
 have hb:Tryz.t77.bytes=24:=rfl;rw [Go.run_make w 25 77 Tryz.t77 (.slice none 0 0) Tryz.underlying25 (by kernel_rfl) rfl .i64 .i64 n n (by omega) (by omega) (by rw [hb];omega) (by omega)];have e1:madeCells (Value.cells (.slice none 0 0)) (n*Tryz.t77.size)=rowF (fun _=>.slice none 0 0) n:=by
  rw [show Tryz.t77.size=1 from rfl];apply Array.ext_getElem?;intro j
  by_cases k:j<n
  ·rw [zbp _ _ _ k];simp only [madeCells,Value.cells];rw [Array.getElem?_eq_getElem (by simpa using k)];simp [Nat.mod_one]
  ·rw [zcZ _ _ _ k,Array.getElem?_eq_none (by rw [size_madeCells];omega)]
 simp only [Int.toNat_natCast,e1]
theorem zlX (w:World) (g n dCap:Nat) (a:Addr) (sCap:Nat) (cur:Array Value) (t:TypeId) (cs:List Value) (hg:w.heap[g]? = some (.cells cur t (0,0))) (hn:cs.length=n*2)
  (hsrc:∀j v,cs[j]? = some v→w.cell? (a.add j)=some v) (hfit:cs.length≤cur.size) (h1:∀v ∈ cs,v.oneCell'=true) (ty:TypeId):
  (Builtin.copy_ #[26,26] ty #[.slice (some ⟨g,0,none⟩) n n,.slice (some a) n sCap]).run Tryz.prog w =
   .ok (goInt n) (w.setRow g (cur.toList.take 0++cs++cur.toList.drop (0+cs.length)).toArray):=by
 have hl:=run_loadCells_list (P:=Tryz.prog) w a cs hsrc;have hst:=run_storeCells_at Tryz.prog g 0 t cs 0 cur w hg (by simpa using hfit) h1;obtain ⟨i0,hi,hz0,hz1,hz2⟩:=zkv;have e:Nat.min n n=n:=Nat.min_self n;rw [hn] at hl;simp only [Nat.zero_add,hn] at hst;simp [Builtin.copy_,run_underlying Tryz.underlying26,Builtin.lenOf,Builtin.firstCells,sizeOf,typeInfo,hi,hz1,e,hl,hst,hn]
theorem zkQ (w:World) (d a:Option Addr) (dCap sCap:Nat) (ty:TypeId):(Builtin.copy_ #[26,26] ty #[.slice d 0 dCap,.slice a 0 sCap]).run Tryz.prog w=.ok (goInt 0) w:=by
 obtain ⟨i0,hi,hz0,hz1,hz2⟩:=zkv;have hl:∀(x:Addr),(loadCells x 0).run Tryz.prog w=.ok #[] w:=fun x=>by simpa using run_loadCells_list (P:=Tryz.prog) w x [] (by simp)
 have e:Nat.min 0 0=0:=rfl;cases d<;>cases a<;>simp [Builtin.copy_,run_underlying Tryz.underlying26,Builtin.lenOf,Builtin.firstCells,sizeOf,typeInfo,hi,hz1,e,storeCells,hl]
def OwnF (lo:Nat) (w:World) (z nl ns:Nat):Prop:=
 ∃(x y:Nat) (cx cy:Array Value),w.heap[z]? = some (.cells #[.slice (some ⟨x,0,none⟩) nl nl,.slice (some ⟨y,0,none⟩) ns ns] 28 (0,0))∧w.heap[x]? = some (.cells cx 77 (0,0))∧cx.size=nl∧w.heap[y]? = some (.cells cy 205 (0,0))∧cy.size=ns*2∧lo≤x∧lo≤y∧lo≤z∧x≠y∧x≠z∧y≠z
theorem zeu (u:World) (o1 o2 o3:Obj):((((u.alloc o1).alloc o2).alloc o3).drew).heap[u.heap.size]? = some o1∧((((u.alloc o1).alloc o2).alloc o3).drew).heap[u.heap.size+1]? = some o2∧((((u.alloc o1).alloc o2).alloc o3).drew).heap[u.heap.size+1+1]? = some o3:=by
 have e:((((u.alloc o1).alloc o2).alloc o3).drew).heap=((u.heap.push o1).push o2).push o3:=rfl;rw [e];refine ⟨?_,?_,?_⟩
 ·rw [Array.getElem?_push,if_neg (by simp;omega),Array.getElem?_push,if_neg (by simp),Array.getElem?_push,if_pos rfl]
 ·rw [Array.getElem?_push,if_neg (by simp),Array.getElem?_push,if_pos (by simp)]
 ·rw [Array.getElem?_push,if_pos (by simp)]
theorem zjE {u:World} (o1 o2 o3:Obj) (h:lo≤u.heap.size):Below lo u ((((u.alloc o1).alloc o2).alloc o3).drew):=
 ((((Below.refl _ u).alloc (Nat.le_refl _) _).alloc (by simp) _).alloc (by simp;omega) _).drew.mono h
def zzY (w:World) (nl:Nat) (pL:Option Addr):Prop:=nl=0∨(nl=1∧∃gl cur gc F,pL=some ⟨gl,0,none⟩∧w.heap[gl]? = some (.cells cur 77 (0,0))∧cur[0]? = some (.slice (some ⟨gc,0,none⟩) 8 8)∧RowN w gc 8 F)
def zzZ (w:World) (ns:Nat) (pS:Option Addr):Prop:=ns=0∨∃g,∃cs:List Value,pS=some ⟨g,0,none⟩∧cs.length=ns*2∧(∀j v,cs[j]? = some v→w.cell? ⟨g,j,none⟩=some v)∧(∀v ∈ cs,v.oneCell'=true)∧g<w.heap.size
theorem ztZ {nl capL capS:Nat} {pL pS:Option Addr} (h1:nl≤1) (hs:ns≤65536) (hL:zzY w nl pL) (hS:zzZ w ns pS):
  Calls Tryz.prog 14 #[.agg #[.slice pL nl capL,.slice pS ns capS]] w fun e w'=>(∃x y,e=Ending.returned (.agg #[.slice (some ⟨x,0,none⟩) nl nl,.slice (some ⟨y,0,none⟩) ns ns]))∧Below w.heap.size w w':=by
 have H1:=hide h1;have HS:=hide hs;obtain ⟨B,hB⟩:∃B,B=w.heap.size:=⟨_,rfl⟩
 have ML:=hide (fun u=>zqo nl h1 u);have MS:=hide (fun u=>zhn ns hs u);have HL:=hide hL;have HSS:=hide hS;clear hL hS;go_enter Tryz.func14,Tryz.ntmps14;go_upto_region 1 with fail;refine under_name fun w1 hw1=>?_
 have b1:Below w.heap.size w w1:=by rw [hw1];exact ((Below.refl _ w).alloc (Nat.le_refl _) _).alloc (by simp) _
 have r0:w1.heap[w.heap.size]? = some (.cells #[.slice pL nl capL,.slice pS ns capS] 28 (0,0)):=by rw [hw1,heap_alloc_old _ _ (by simp)];exact heap_alloc_new _ _
 have r1:w1.heap[w.heap.size+1]? = some (.cells #[.slice none 0 0,.slice none 0 0] 28 (0,0)):=by
  have k:=heap_alloc_new (w.alloc (.cells #[.slice pL nl capL,.slice pS ns capS] 28)) (.cells #[.slice none 0 0,.slice none 0 0] 28);rw [show (w.alloc (.cells #[.slice pL nl capL,.slice pS ns capS] 28)).heap.size=w.heap.size+1 by simp] at k;rw [hw1];exact k
 obtain ⟨b,hb⟩:∃b,w.heap.size=b:=⟨_,rfl⟩
 rw [hb] at b1 r0 r1 ⊢;have B1:=hide b1;have R0:=hide r0;have R1:=hide r1;have c0:w1.cell? ⟨b,0,none⟩=some (.slice pL nl capL):=(cell_of_row w1 b 0 _ _ _ r0).trans rfl;have c1:w1.cell? ⟨b,1,none⟩=some (.slice pS ns capS):=(cell_of_row w1 b 1 _ _ _ r0).trans rfl;have hz:b<w1.heap.size:=lt_of_block r0;have hz1:b<w1.heap.size+1:=by omega
 have hz2:b<w1.heap.size+1+1:=by omega
 have hz3:b<w1.heap.size+1+1+1:=by omega
 have ne:¬b=w1.heap.size∧¬b=w1.heap.size+1∧¬b=w1.heap.size+1+1:=by omega
 have HB:=hide hb;clear hw1 b1 r0 r1 hb hB B h1 hs;have l1:=lt_of_block R1.out;have LO:=hide (show b+2≤w1.heap.size by omega);go_cut [3] from 6 to 14 (fun s3 wx=>∃z,s3=.pointer (some ⟨z,0,none⟩)∧OwnF (b+2) wx z nl ns∧Below (b+2) w1 wx)
 case first=>
  have hm1:=ML.out;have hm2:=MS.out;go_region_held3 (fun w'=>w'.cell? ⟨b,0,none⟩=some (.slice pL nl capL)∧w'.cell? ⟨b,1,none⟩=some (.slice pS ns capS)) (simp [c0,c1,hz,hz1,hz2,hz3,ne,World.cell?_alloc_lt]) (fail)
  all_goals (go_wp2_with fail;go_meet)
  all_goals (have LO2:=LO.out;first
   |(exact ⟨_,rfl,⟨_,_,_,_,(zeu _ _ _ _).1,(zeu _ _ _ _).2.1,zai _ _,(zeu _ _ _ _).2.2,zai _ _,by omega,by omega,by omega,by omega,by omega,by omega⟩,zjE _ _ _ LO2⟩)
   |(exact ⟨_,rfl,⟨_,_,_,_,(zeu _ _ _ _).1,(zeu _ _ _ _).2.2,zai _ _,(zeu _ _ _ _).2.1,zai _ _,by omega,by omega,by omega,by omega,by omega,by omega⟩,zjE _ _ _ LO2⟩)
   |(exact ⟨_,rfl,⟨_,_,_,_,(zeu _ _ _ _).2.1,(zeu _ _ _ _).1,zai _ _,(zeu _ _ _ _).2.2,zai _ _,by omega,by omega,by omega,by omega,by omega,by omega⟩,zjE _ _ _ LO2⟩)
   |(exact ⟨_,rfl,⟨_,_,_,_,(zeu _ _ _ _).2.1,(zeu _ _ _ _).2.2,zai _ _,(zeu _ _ _ _).1,zai _ _,by omega,by omega,by omega,by omega,by omega,by omega⟩,zjE _ _ _ LO2⟩)
   |(exact ⟨_,rfl,⟨_,_,_,_,(zeu _ _ _ _).2.2,(zeu _ _ _ _).1,zai _ _,(zeu _ _ _ _).2.1,zai _ _,by omega,by omega,by omega,by omega,by omega,by omega⟩,zjE _ _ _ LO2⟩)
   |(exact ⟨_,rfl,⟨_,_,_,_,(zeu _ _ _ _).2.2,(zeu _ _ _ _).2.1,zai _ _,(zeu _ _ _ _).1,zai _ _,by omega,by omega,by omega,by omega,by omega,by omega⟩,zjE _ _ _ LO2⟩))
 obtain ⟨z,rfl,OW,b2⟩:=hcut;have O2:=hide OW;have B2:=hide b2;have d0:wc.cell? ⟨b,0,none⟩=some (.slice pL nl capL):=(cell_of_row wc b 0 _ _ _ ((b2.block b (by omega)).trans R0.out)).trans rfl;clear OW b2 ML MS c0 c1 hz hz1 hz2 hz3 ne;go_wp2_with fail;go_loopw [18] (fun s18 wr=>∃i:Nat,i≤nl∧s18=.int .i64 (i:Int)∧OwnF (b+2) wr z nl ns∧Below (b+2) w1 wr) (fun s18 _=>nl-(intOf s18).toNat)
 case atStart=>exact ⟨0,Nat.zero_le _,rfl,O2.out,B2.out⟩
 case round=>
  obtain ⟨i,hi,rfl,ho,hb⟩:=hrel;clear O2 B2 d0
  by_cases hlt:i<nl
  ·rcases HL.out with h|⟨h,gl,cur,gc,F,e1,e2,e3,e4⟩
   ·omega
   ·subst h;obtain rfl:i=0:=by omega
    subst e1;have eb:=HB.out;have kp:∀k,k<b→wr.heap[k]? = w.heap[k]? :=fun k hk=>(hb.block k (by omega)).trans (B1.out.block k hk)
    have s0:wr.cell? ⟨gl,0,none⟩=some (.slice (some ⟨gc,0,none⟩) 8 8):=(cell_of_row wr gl 0 _ _ _ ((kp gl (by have:=lt_of_block e2;omega)).trans e2)).trans e3;have S2:=hide (show RowN wr gc 8 F from (kp gc (by have:=e4.lt;omega)).trans e4);have GB:=hide (show gc<b by have:=e4.lt;omega);obtain ⟨x,y,cx,cy,q1,q2,q3,q4,q5,l1,l2,l3,n1,n2,n3⟩:=ho;obtain ⟨v0,rfl⟩:∃v0,cx=#[v0]:=by
     rcases cx with ⟨_|⟨a,_|⟨c,r⟩⟩⟩<;>simp at q3
     exact ⟨a,rfl⟩
    have dz:wr.cell? ⟨z,0,none⟩=some (.slice (some ⟨x,0,none⟩) 1 1):=(cell_of_row wr z 0 _ _ _ q1).trans rfl;have dx:wr.cell? ⟨x,0,none⟩=some v0:=(cell_of_row wr x 0 _ _ _ q2).trans rfl;have fx:=frozen_of_row wr x 0 _ _ q2;have lz:=lt_of_block q1;have lx:=lt_of_block q2;have ly:=lt_of_block q4;have Q1:=hide q1;have Q2:=hide q2;have Q4:=hide q4;have HY:=hide q5;have NN:=hide (And.intro n1 (And.intro n2 n3));have LL:=hide (And.intro l1 (And.intro l2 l3));have HBW:=hide hb;have hm:∀u:World,(Instr.makeSlice 77 (.int .i64 8) (.int .i64 8)).run Tryz.prog u=.ok (.slice (some ⟨u.heap.size,0,none⟩) 8 8) (u.alloc (.cells (rowN (fun _=>0) 8).toArray 3)):=zgn 8 (by decide);have nxz:¬z=x:=fun e=>n2 e.symm
    clear q1 q2 q3 q4 q5 n1 n2 n3 l1 l2 l3 hb kp e2 e3 e4;go_upto_region 5 with fail;clear s0;go_cut [] from 23 to 29 (fun wx=>∃m,wr.heap.size≤m∧wx.heap[z]? = some (.cells #[.slice (some ⟨x,0,none⟩) 1 1,.slice (some ⟨y,0,none⟩) ns ns] 28 (0,0))∧wx.heap[x]? = some (.cells #[.slice (some ⟨m,0,none⟩) 8 8] 77 (0,0))∧wx.heap[y]? = some (.cells cy 205 (0,0))∧RowN wx m 8 (fun _=>0)∧Below (b+2) wr wx)
    case first=>
     have ky:∀v (o:Obj) (k:Nat),k<wr.heap.size→k≠x→((wr.setCell ⟨x,0,none⟩ v).alloc o).drew.heap[k]? = wr.heap[k]? :=fun v o k hk hne=>(heap_alloc_old (wr.setCell ⟨x,0,none⟩ v) o (by simpa using hk)).trans (heap_setCell_other wr ⟨x,0,none⟩ k v hne)
     have kz:∀v (o:Obj),((wr.setCell ⟨x,0,none⟩ v).alloc o).drew.cell? ⟨z,0,none⟩=some (.slice (some ⟨x,0,none⟩) 1 1):=fun v o=>(cell_of_row _ z 0 _ _ _ ((ky v o z lz nxz).trans Q1.out)).trans rfl
     have KY:=hide ky;clear ky;go_region_held3 (fun w'=>w'.cell? ⟨z,0,none⟩=some (.slice (some ⟨x,0,none⟩) 1 1)) (first|exact kz _ _|simp [dz,lz,nxz,World.cell?_alloc_lt]) (fail)
     all_goals (go_wp2_with fail;go_meet)
     have sx:=heap_setCell_same wr x 0 _ _ (.slice (some ⟨wr.heap.size,0,none⟩) 8 8) Q2.out;have lo:=LL.out;have nn:=NN.out;have ll:=hide (And.intro lz (And.intro lx ly));have KX:((wr.setCell ⟨x,0,none⟩ (.slice (some ⟨wr.heap.size,0,none⟩) 8 8)).alloc (.cells (rowN (fun _=>0) 8).toArray 3)).drew.heap[wr.heap.size]? = some (.cells (rowN (fun _=>0) 8).toArray 3 (0,0)):=by
      have k:=heap_alloc_new (wr.setCell ⟨x,0,none⟩ (.slice (some ⟨wr.heap.size,0,none⟩) 8 8)) (.cells (rowN (fun _=>0) 8).toArray 3);rw [show (wr.setCell ⟨x,0,none⟩ (.slice (some ⟨wr.heap.size,0,none⟩) 8 8)).heap.size=wr.heap.size by simp] at k;exact k
     exact ⟨wr.heap.size,Nat.le_refl _,(KY.out _ _ z lz nxz).trans Q1.out,(heap_alloc_old (wr.setCell ⟨x,0,none⟩ _) _ (by simpa using lx)).trans sx,(KY.out _ _ y ly (fun e=>nn.1 e.symm)).trans Q4.out,KX,(((Below.refl (b+2) wr).setCell lo.1 _).alloc (by simp;omega) _).drew⟩
    obtain ⟨m,m0,g1,g2,g3,g4,b3⟩:=hcut;have ez:wc.cell? ⟨z,0,none⟩=some (.slice (some ⟨x,0,none⟩) 1 1):=(cell_of_row wc z 0 _ _ _ g1).trans rfl;have ex:wc.cell? ⟨x,0,none⟩=some (.slice (some ⟨m,0,none⟩) 8 8):=(cell_of_row wc x 0 _ _ _ g2).trans rfl
    have CS:=hide (show ∀j v,(rowN F 8)[j]? = some v→wc.cell? ((⟨gc,0,none⟩:Addr).add j)=some v from fun j v hj=>by
     have k:RowN wc gc 8 F:=(b3.block gc (by have:=GB.out;omega)).trans S2.out;have ea:(⟨gc,0,none⟩:Addr).add j=⟨gc,j,none⟩:=by unfold Addr.add;split<;>simp_all
     rw [ea,cell_of_row wc gc j _ _ _ k,List.getElem?_toArray]
     exact hj)
    have ONE:=hide (show ∀v ∈ rowN F 8,v.oneCell'=true from fun v hv=>by
     unfold rowN at hv;obtain ⟨_,_,rfl⟩:=List.mem_map.1 hv
     rfl)
    have G1:=hide g1;have G2:=hide g2;have G3:=hide g3;have G4:=hide g4;have B3:=hide b3;have M0:=hide m0;have LZ:=hide (And.intro lz (And.intro lx ly));clear g1 g2 g3 g4 b3 m0 lz lx ly dz dx fx hm Q1 Q2 Q4 S2;obtain ⟨CR,hrun⟩:∃CR:Array Value,(Builtin.copy_ #[77,77] 3 #[.slice (some ⟨m,0,none⟩) 8 8,.slice (some ⟨gc,0,none⟩) 8 8]).run Tryz.prog wc=.ok (.int .i64 8) (wc.setRow m CR):=
     ⟨_,run_copy_row (P:=Tryz.prog) wc 77 77 3 3 m 0 8 8 ⟨gc,0,none⟩ 8 8 _ _ (rowN F 8) Tryz.underlying77 (by kernel_rfl) G4.out (zcz F 8) CS.out (by simp [zcz]) ONE.out⟩
    clear CS ONE;go_wp2_with fail;go_roundw
    case rel=>
     have lz:=LZ.out;have m1:=M0.out;have lo:=LL.out;exact ⟨1,Nat.le_refl _,rfl,⟨x,y,_,cy,(setRow_other wc m z CR (by omega)).trans G1.out,(setRow_other wc m x CR (by omega)).trans G2.out,rfl,(setRow_other wc m y CR (by omega)).trans G3.out,HY.out,lo.1,lo.2.1,lo.2.2,NN.out.1,NN.out.2.1,NN.out.2.2⟩,HBW.out.trans (below_setRow B3.out (by omega) _)⟩
    case measure=>simp [intOf]
  ·obtain rfl:i=nl:=by omega
   obtain ⟨x,y,cx,cy,q1,q2,q3,q4,q5,l1,l2,l3,n1,n2,n3⟩:=ho;have r0:=(hb.block b (by omega)).trans R0.out;have r1:=(hb.block (b+1) (by omega)).trans R1.out;have d1:wr.cell? ⟨b,1,none⟩=some (.slice pS ns capS):=(cell_of_row wr b 1 _ _ _ r0).trans rfl;have dz1:wr.cell? ⟨z,1,none⟩=some (.slice (some ⟨y,0,none⟩) ns ns):=(cell_of_row wr z 1 _ _ _ q1).trans rfl;have eb:=HB.out;obtain ⟨w2,hrun,k2,b2⟩:∃w2,(Builtin.copy_ #[26,26] 3 #[.slice (some ⟨y,0,none⟩) ns ns,.slice pS ns capS]).run Tryz.prog wr=.ok (.int .i64 (ns:Int)) w2∧(∀k,k≠y→w2.heap[k]? = wr.heap[k]?)∧Below (b+2) wr w2:=by
    rcases HSS.out with h|⟨g,cs,e1,e2,e3,e4,e5⟩
    ·subst h;exact ⟨wr,zkQ wr _ _ _ _ _,fun k _=>rfl,Below.refl _ _⟩
    ·subst e1;have hc:∀j v,cs[j]? = some v→wr.cell? ((⟨g,0,none⟩:Addr).add j)=some v:=fun j v hj=>by
      have ea:(⟨g,0,none⟩:Addr).add j=⟨g,j,none⟩:=by unfold Addr.add;split<;>simp_all
      rw [ea,hb.cell (p:=⟨g,j,none⟩) (by show g<b+2;omega),B1.out.cell (p:=⟨g,j,none⟩) (by show g<b;omega)];exact e3 j v hj
     exact ⟨_,zlX wr y ns ns ⟨g,0,none⟩ capS cy _ cs q4 e2 hc (by omega) e4 _,fun k hk=>setRow_other wr y k _ hk,below_setRow (Below.refl _ _) l2 _⟩
   have Z2:=hide ((k2 z (fun e=>n3 e.symm)).trans q1);have R2:=hide ((k2 (b+1) (by omega)).trans r1)
   have BW:=hide (show Below w.heap.size w w2 from by
    rw [eb]
    exact (B1.out.trans ((hb.trans b2).mono (by omega))))
   have SB:=hide (show w.heap.size≤b+1 by omega);clear k2 b2 q1 q2 q3 q4 q5 l1 l2 l3 n1 n2 n3 r0 r1 hb eb
   go_wp2_with (first
    |(refine wpList_load_row rfl 28 (.tmp 3) rfl z rfl 28 _ (0,0) _ Z2.out Tryz.underlying28 rfl (by kernel_rfl) ?_)
    |(refine wpList_store_row rfl 28 (.tmp 2) (.tmp 43) rfl (b+1) _ rfl rfl 28 _ R2.out (by kernel_rfl) rfl (by kernel_rfl) ?_))
   refine bodyPost_ret (results_cell_row rfl _ _ (b+1) 28 _ (0,0) _ rfl (setRow_heap _ _ _ _ _ _ R2.out) Tryz.underlying28 rfl (by kernel_rfl)) rfl ?_;exact ⟨⟨_,_,rfl⟩,below_setRow BW.out SB.out _⟩
theorem zqp {nl:Nat} (h:Told w q nl ns):∃pL capL pS capS,w.heap[q]? = some (.cells #[.slice pL nl capL,.slice pS ns capS] 28 (0,0))∧nl≤1∧zzY w nl pL∧zzZ w ns pS:=by
 obtain ⟨vL,vS,xs,h1,⟨h2,h5⟩,h3,h4⟩:=h;have hL:∃pL capL,vL=.slice pL nl capL∧nl≤1∧zzY w nl pL:=by
  rcases h4 with ⟨rfl,rfl⟩|⟨rfl,gl,cap,cur,gc,F,rfl,e2,e3,e4,_⟩
  ·exact ⟨none,0,rfl,by decide,.inl rfl⟩
  ·exact ⟨_,cap,rfl,by decide,.inr ⟨rfl,gl,cur,gc,F,rfl,e2,e3,e4⟩⟩
 have hS:∃pS capS,vS=.slice pS ns capS∧zzZ w ns pS:=by
  rcases h5 with ⟨rfl,rfl⟩|⟨g,cap,cur,rfl,r2,r3,r4,r5,r6,r7⟩
  ·exact ⟨none,0,rfl,.inl rfl⟩
  ·refine ⟨_,cap,rfl,.inr ⟨g,xs,rfl,h2,fun j v hj=>?_,fun v hv=>?_,lt_of_block r3⟩⟩
   ·rw [cell_of_row w g j _ _ _ r3];rw [←r7,List.getElem?_take] at hj;split at hj
    ·simpa using hj
    ·cases hj
   ·obtain ⟨z,rfl⟩:=h3 v hv;rfl
 obtain ⟨pL,capL,rfl,a,b⟩:=hL;obtain ⟨pS,capS,rfl,c⟩:=hS;exact ⟨pL,capL,pS,capS,h1,a,b,c⟩
theorem zwH (h:w.heap[q]? = some (.cells #[.slice none 0 0,.slice none 0 0] 28 (0,0))):Told w q 0 0:=⟨_,_,[],h,World.ownsRow_nil _ _ _ _,fun u hu=>(by simp at hu),.inl ⟨rfl,rfl⟩⟩
def AT (F:Bool) (g b v c d:Nat) (bs:List Int) (N:Nat) (w:World):Prop:=
 ∃(j:Nat) (M:Nat→Int) (p wait:Int),CK w g b v c d bs (YC (st0 N) 0) M (aJ j) p (pcJ j) (fJ F j) (lJ j) (N:Int) wait 0∧PH (tkF F) N j wait∧M 16=(nJ j:Int)
theorem zxB (hc:ztG bs F) (N:Nat) (hN:N≤641*tkF F) (h1:1≤N) (h:CK w g b v c d bs (YC 0 0) (fun _=>0) 0 4 0 false 0 0 0 0) (hl:HasLevels w) (hb:lo≤b∧lo≤v∧lo≤g∧10≤lo∧lo≤w.heap.size):
  Calls Tryz.prog 5 #[.pointer (some ⟨g,0,none⟩),.int .i64 (N:Int)] w fun e w'=>(∃x y,e=Ending.returned (.agg #[x,y]))∧AT F g b v c d bs N w'∧Below lo w w':=by
 have HC:=hide hc;have HN:=hide hN;have n1:¬(N:Int)<1:=by omega
 have n2:¬(4194304:Int)<(N:Int):=by have:=zxz F;have:=Nat.mul_le_mul_left 641 this.2;omega
 obtain ⟨X,hX⟩:∃X:Int,X=(N:Int):=⟨_,rfl⟩
 rw [←hX] at n1 n2 ⊢;have HX:=hide hX;have ba:=(Below.refl w.heap.size w).alloc (Nat.le_refl _) (.cells #[.slice none 0 0,.slice none 0 0] 28);have H:=hide (h.next ba);have HW:=hide h;have HB:=hide hb
 have KV:=hide (show ∀(u:World),CK u g b v c d bs (YC 0 0) (fun _=>0) 0 4 0 false 0 0 0 0→Calls Tryz.prog 7 #[.pointer (some ⟨g,0,none⟩)] u fun e w'=>e=Ending.returned (.bool true)∧Below u.heap.size u w' from fun u k=>by
  obtain ⟨⟨R0,f0,l0,c0,m⟩,k2,_⟩:=k
  exact zix k2 m (vz_Y 0 (by decide) _ _ _ _ _) ⟨⟨by decide,by decide,by decide,by decide,by decide,by decide,by decide⟩,⟨.inl rfl,by decide,by decide,by decide⟩,by decide,by decide,by decide⟩)
 have LV:=hide hl;have BA:=hide ba;clear h hb hl hc hN ba hX;go_enter Tryz.func5,Tryz.ntmps5;go_wp2_with fail;refine (KV.out _ H.out).mono ?_;rintro e w2 ⟨rfl,b2⟩;have H2:=hide (H.out.next b2);have B2:=hide (BA.out.trans (b2.mono (by simp)));have R2:=hide ((b2.block w.heap.size (by simp)).trans (heap_alloc_new w (.cells #[.slice none 0 0,.slice none 0 0] 28)));clear b2 H BA;go_upto_region 4 with fail;refine under_name fun w3 hw3=>?_
 obtain ⟨q,hq⟩:∃q,w2.heap.size=q:=⟨_,rfl⟩
 obtain ⟨r,hr⟩:∃r,w.heap.size=r:=⟨_,rfl⟩
 have ba:=(Below.refl w2.heap.size w2).alloc (Nat.le_refl _) (.cells #[.slice none 0 0,.slice none 0 0] 28);have T3:=hide (zwH (show w3.heap[q]? = some (.cells #[.slice none 0 0,.slice none 0 0] 28 (0,0)) by rw [hw3,←hq];exact heap_alloc_new _ _));rw [←hw3] at ba;have H3:=hide (H2.out.next ba);have bb:=zaz B2.out ba;rw [hr] at bb;have B3:=hide bb;have r2:=R2.out;have R3:=hide (show w3.heap[r]? = some (.cells #[.slice none 0 0,.slice none 0 0] 28 (0,0)) by rw [←hr];exact (ba.block _ (lt_of_block r2)).trans r2);have lq:r<q:=by rw [←hr,←hq];exact lt_of_block r2
 have lts:=HW.out.2.2.2;have lg:=lt_of_block HW.out.2.1;have hb:=HB.out;rw [hr] at lts lg hb;rw [hq,hr];have LG:=hide (And.intro lq (And.intro lts (And.intro lg hb)));have lv3:HasLevels w3:=zdo LV.out ((hr▸B3.out:Below w.heap.size w w3).block _ LV.out.pos);have s3:=B3.out.size
 have G3:=hide (show GI lo w3 g b v c d q bs F 0 0 0 (PH (tkF F) 0) w3 from
  ⟨0,fun _=>0,4,0,0,0,⟨H3.out,T3.out,lv3,⟨rfl,rfl,rfl,Nat.le_refl _,fun _ _ _=>rfl⟩,by omega⟩,.inl ⟨rfl,rfl,rfl⟩,rfl,⟨by decide,by decide⟩,by omega,Nat.le_refl _,fun _=>⟨rfl,rfl⟩⟩)
 have eX:=HX.out;subst eX;clear hw3 ba bb r2 lq lts lg hb lv3 s3 H2 B2 R2 T3 H3 HX;go_wp2_with fail;refine (zzX HC.out N HN.out G3.out).mono ?_;rintro e w6 ⟨rfl,j,M,p,wait,ns,k6,hP,hM,hns⟩;obtain ⟨pL,capL,pS,capS,t1,t2,t3,t4⟩:=zqp k6.2.1;have N8:N≤7692:=by
  have:=HN.out;unfold tkF at this;split at this<;>omega
 have KC:=hide (ztZ (capL:=capL) (capS:=capS) t2 (show ns≤65536 by omega) t3 t4);have T1:=hide t1;have o6:=k6.2.2.2.1;have lg:=LG.out;have hb:=HB.out;have R6:=hide (o6.obj R3.out (fun e=>by rcases e with ((e|e)|e)|e<;>omega));have B6:=hide (show Below lo w w6 from ((B3.out.mono (by omega):Below lo w w3)).trans ⟨o6.1,o6.2.1,o6.2.2.1,o6.size,fun k hk=>o6.block k (by have:=B3.out.size;omega) (fun e=>by rcases e with ((e|e)|e)|e<;>omega)⟩);have K6:=hide k6.1;have PP:=hide hP;have MM:=hide hM;have LR:=hide (show lo≤r by omega);have NR:=hide (show r≠b∧r≠v∧r≠c∧r≠d∧10≤r∧r≠g by omega);obtain ⟨nl,hnl⟩:∃n,nl0 N=n:=⟨_,rfl⟩
 rw [hnl] at KC T1;clear k6 hP hM hns t1 t2 t3 t4 o6 lg hb G3 B3 R3 LG HB HN HC hnl
 go_wp2_with (first
  |(refine wpList_load_row rfl 28 (.tmp 5) rfl q rfl 28 _ (0,0) _ T1.out Tryz.underlying28 rfl (by kernel_rfl) ?_)
  |(go_at_call 14;refine KC.out.mono ?_;rintro e w7 ⟨⟨x7,y7,rfl⟩,b7⟩;have B7:=hide b7;have R7:=hide ((b7.block r (lt_of_block R6.out)).trans R6.out);clear b7)
  |(refine wpList_store_row rfl 28 (.tmp 4) (.tmp 28) rfl r _ rfl rfl 28 _ R7.out (by kernel_rfl) rfl (by kernel_rfl) ?_))
 refine bodyPost_ret (results_cell_row rfl _ _ r 28 _ (0,0) _ rfl (setRow_heap _ _ _ _ _ _ R7.out) Tryz.underlying28 rfl (by kernel_rfl)) rfl ?_;have k9:OnlyE (fun i=>i=r) w7 (w7.setRow r #[.slice (some ⟨x7,0,none⟩) nl nl,.slice (some ⟨y7,0,none⟩) ns ns]):=⟨rfl,rfl,rfl,by simp [World.setRow],fun i hi hE=>setRow_other w7 r i _ hE⟩
 exact ⟨⟨_,_,rfl⟩,⟨j,M,p,wait,(K6.out.next B7.out).but k9 (.inr NR.out),PP.out,MM.out⟩,below_setRow (B6.out.trans (B7.out.mono (by have:=B6.out.size;have:=lt_of_block R6.out;have:=LR.out;omega))) LR.out _⟩
def zqq (F:Bool) (k:Nat):Int:=[if F then 212 else 84,169,248,83,2,230,16,128,252].getD k 0
theorem zwI (hl:bs.length=8192) (h:Nine (zqq F) bs):ztG bs F:=by
 refine ⟨hl,h 0 (by decide),h 1 (by decide),h 2 (by decide),h 3 (by decide),h 4 (by decide),h 5 (by decide),h 6 (by decide),h 7 (by decide),h 8 (by decide)⟩
theorem zqr (F:Bool) (k:Nat):0≤zqq F k∧zqq F k<256:=by
 unfold zqq;cases F<;>rcases k with _|_|_|_|_|_|_|_|_|k<;>simp
theorem zua {gc:Nat} (hT:Tabs W) (hE:HasErr W) (hC:CT W) (hG:10≤W.heap.size) (hg:gc<W.heap.size) (hc:∀k,k<9→W.cell? ⟨gc,k,none⟩=some (.int .u8 (zqq F k))):
  Calls Tryz.prog 4 #[.slice (some ⟨gc,0,none⟩) 9 9,.int .i64 0] W fun e w'=>∃g b v c d bs,e=Ending.returned (.pointer (some ⟨g,0,none⟩))∧ztG bs F∧jn (KB bs 8190) (KB bs 8191)=57344∧CK w' g b v c d bs (YC 0 0) (fun _=>0) 0 4 0 false 0 0 0 0∧(W.heap.size≤b∧W.heap.size≤v∧W.heap.size≤g)∧Below W.heap.size W w':=by
 have HT:=hide hT;have HE:=hide hE;have HC:=hide hC;have HG:=hide hG;have KR:=hide (zwp W gc (zqq F) (fun k hk=>⟨hc k hk,zqr F k⟩) hg);clear hT hE hC hG hg hc;go_enter Tryz.func4,Tryz.ntmps4;go_wp2_with fail;refine KR.out.mono ?_;rintro e w1 ⟨bs,hl,rfl,h1,h9,e0,e1,b1⟩;obtain ⟨q,hq⟩:∃q,W.heap.size=q:=⟨_,rfl⟩
 have LQ:=hide (show W.heap.size≤q by omega);rw [hq] at h1 ⊢;have CB:=hide (zwI hl h9);have JN:=hide (show jn (KB bs 8190) (KB bs 8191)=57344 by unfold KB;rw [e0,e1];decide);have HL:=hide hl;have B1:=hide b1;have KL:=hide (zvb q 0 8192 bs w1 (fun i hi=>by rw [Nat.zero_add];exact (h1.cell i hi).1) h1.2 (by omega) (by omega) (by decide) h1.lt (HT.out.next b1).1 (HE.out.next b1));rw [hl] at KL;rw [show zdp (8192-zbw 8192)=0 by decide,show zbw 8192=0 by decide,List.drop_zero] at KL;clear h1 h9 e0 e1 hl b1 hq KR;go_wp2_with fail;refine KL.out.mono ?_;rintro e w2 ⟨hc,b2⟩;obtain ⟨c,rfl,d,lc,ld,k1,k2⟩:∃c,e=Ending.returned (.tuple #[.pointer (some ⟨c,0,none⟩),.int .i64 0])∧zrC w1.heap.size w2 c bs:=by
  rcases hc with ⟨h0,_⟩|⟨_,c,h1,h2⟩
  ·exact absurd rfl h0
  ·exact ⟨c,h1,h2⟩
 have HCd:=hide (show HasCard w2 c d bs from ⟨k1,k2,zfz k1⟩);have B2:=hide (zaz B1.out b2);have LC:=hide (show c<w2.heap.size∧d<w2.heap.size from ⟨zfz k1,lt_of_block k2.1⟩);have KN:=hide (zzD HCd.out HL.out (HT.out.next B2.out) (HC.out.next B2.out) (Nat.le_trans HG.out B2.out.size) JN.out);clear hc b2 lc ld k1 k2 KL B1;go_wp2_with fail;refine KN.out.mono ?_;rintro e w3 ⟨g,b,v,rfl,hm,hk,⟨l1,l2,l3⟩,ng,b3⟩;have LS:=hide (show W.heap.size≤b∧W.heap.size≤v∧W.heap.size≤g by have:=B2.out.size;omega);have lc:=LC.out
 have KC:=hide (show CK w3 g b v c d bs (YC 0 0) (fun _=>0) 0 4 0 false 0 0 0 0 from
  ⟨by rw [yc_0];exact zxr hm,by unfold HasK at hk ⊢;rw [hk];rfl,by have:=HG.out;have:=B2.out.size;omega,hm.lts⟩)
 have B3:=hide (zaz B2.out b3);clear hm hk l1 l2 l3 ng b3 lc KN HCd B2 HT HE HC HG LC;go_wp2_with fail;go_ret;exact ⟨g,b,v,c,d,bs,rfl,CB.out,JN.out,KC.out,LS.out,B3.out⟩
end Go.Proofs.YtdiidjehdginnaaGreatDoor.L25
namespace Go.Proofs.YtdiidjehdginnaaGreatDoor
set_option maxHeartbeats 8000000
set_option maxRecDepth 20000
open A2 B4 C3 D19 D24 G6 I11 J23 K9 L24 L25 M5 N21 N8 O7 P22 R15 T10 V12 W13
open Go.RowKit
set_option linter.unusedVariables false
set_option linter.unusedSimpArgs false
theorem zon (n:Int):bits .and .i64 n 63=n%64:=zbt 6 (by decide) n
theorem zlY (n:Int):bits .and .i64 n 255=n%256:=zbt 8 (by decide) n
theorem ph_n {F:Bool} {n N j:Nat} {wait:Int} (hN:N=tkF F*(10*(n+1))+1) (h:PH (tkF F) N j wait):nJ j=n+1:=by
 rcases h with ⟨_,h,_⟩|⟨h1,h2,h3,_⟩
 ·omega
 ·have k1:UJ (j-1)≤10*(n+1):=by
   cases F
   ·change 12*UJ (j-1)<N at h2;change N=12*(10*(n+1))+1 at hN;omega
   ·change 3*UJ (j-1)<N at h2;change N=3*(10*(n+1))+1 at hN;omega
  have k2:10*(n+1)<UJ j:=by
   cases F
   ·change N≤12*UJ j at h3;change N=12*(10*(n+1))+1 at hN;omega
   ·change N≤3*UJ j at h3;change N=3*(10*(n+1))+1 at hN;omega
  unfold UJ at k1 k2;unfold nJ
  (repeat' split at k1)<;>(repeat' split at k2)<;>omega
theorem zgw (a0:Int) (a1:Bool) (W:World) (w0:(Lit.int .i64 a0).wf=true) (hL:((Tabs W∧HasErr W∧CT W)∧10≤W.heap.size)∧HasLevels W):
  Calls Tryz.prog 3 #[.int .i64 a0,.bool a1] W fun e w'=>e=.returned (.bool true)∧Below W.heap.size W w':=by
 have HT:=hide hL.1.1;have HG:=hide hL.1.2;have HLv:=hide hL.2;clear hL w0;have EN:=hide (zon a0);obtain ⟨n,hn⟩:∃n:Nat,a0%64=(n:Int):=⟨(a0%64).toNat,by omega⟩
 have n64:n≤63:=by omega
 have EA:=hide (show bits .and .i64 a0 63=(n:Int) by rw [zon,hn]);clear hn EN;cases a1
 ·skip
  go_enter Tryz.func3,Tryz.ntmps3;go_wp2_with fail;rw [EA.out];have b1:=(Below.refl W.heap.size W).alloc (Nat.le_refl _) (.cells #[.int .u8 84,.int .u8 169,.int .u8 248,.int .u8 83,.int .u8 2,.int .u8 230,.int .u8 16,.int .u8 128,.int .u8 252] 5);refine (zua (F:=false) (HT.out.1.next b1) (HT.out.2.1.next b1) (HT.out.2.2.next b1) (Nat.le_trans HG.out b1.size) (by simp) (fun k hk=>?cells)).mono ?_
  case cells=>
   rw [cell_of_row _ _ k _ _ _ (heap_alloc_new _ _)];rcases k with _|_|_|_|_|_|_|_|_|k<;>first|rfl|omega
  rintro e w2 ⟨g,b,v,c,d,bs,rfl,hc,hj,hk,hb,b2⟩;have HC:=hide hc;have HJ:=hide hj;have HK:=hide hk;have HB:=hide (show W.heap.size≤b∧W.heap.size≤v∧W.heap.size≤g from ⟨Nat.le_trans b1.size hb.1,Nat.le_trans b1.size hb.2.1,Nat.le_trans b1.size hb.2.2⟩);have B2:=hide (b1.trans (b2.mono b1.size));have HL2:=hide (zdo HLv.out ((b1.trans (b2.mono b1.size)).block _ HLv.out.pos));clear b1 b2 hc hj hk hb;go_wp2_with fail;obtain ⟨N,hN⟩:∃N:Nat,N=tkF false*(10*(n+1))+1:=⟨_,rfl⟩
  have hN2:N=12*(10*(n+1))+1:=hN;rw [show (120+120*(n:Int)+1)=(N:Int) by omega];refine (zxB HC.out N (by rw [hN];exact Nat.le_trans (show tkF false*(10*(n+1))+1≤tkF false*640+1 from Nat.succ_le_succ (Nat.mul_le_mul_left _ (by omega))) (by decide)) (by omega) HK.out HL2.out ⟨HB.out.1,HB.out.2.1,HB.out.2.2,HG.out,B2.out.size⟩).mono ?_;rintro e w3 ⟨⟨x,y,rfl⟩,⟨j,M,p,wait,k3,hP,hM⟩,b3⟩;have n8:N≤7692:=by omega
  rw [ph_n hN hP,show ((n+1:Nat):Int)=(n:Int)+1 by omega] at hM;have K3:=hide k3;have B3:=hide (B2.out.trans b3);have HM:=hide hM;have N8:=hide n8;have c8:=k3.2.1.at 8 (y:=.pointer (some ⟨b,0,none⟩)) rfl;have r16:=zhF k3.1 16 (by decide);rw [hM] at r16;have EB:=hide (show bits .and .i64 ((n:Int)+1) 255=(n:Int)+1 by rw [zlY];omega);clear k3 hP hM b3 hN hN2 n8 HK HL2 B2;go_upto_if 46 with fail;rw [EB.out,show ((n:Int)+1 != (n:Int)+1)=false by simp];go_wp2_with fail;have ST:st0 N≤63:=by unfold st0;split<;>decide
  refine (zom K3.out ST HC.out.1 HJ.out).mono ?_;rintro e w4 ⟨rfl,k4,o4⟩;have K4:=hide k4;have B4:=hide (show Below W.heap.size W w4 from B3.out.trans ⟨o4.1,o4.2.1,o4.2.2.1,o4.size,fun k hk=>o4.block k (by have:=B3.out.size;omega) (fun e=>by have:=HB.out;rcases e with (e|e)|e<;>omega)⟩)
  have KV:=hide (show ∀u,CK u g b v c d bs (YC (st0 N) 0) M 0 4 0 false 0 (N:Int) 0 0→Calls Tryz.prog 7 #[.pointer (some ⟨g,0,none⟩)] u fun e w'=>e=Ending.returned (.bool true)∧Below u.heap.size u w' from fun u k=>by
   obtain ⟨⟨R0,f0,l0,c0,m⟩,k2,_⟩:=k
   exact zix k2 m (vz_Y _ ST _ _ _ _ _) ⟨⟨by decide,by decide,by decide,by decide,by decide,by decide,by decide⟩,⟨.inl rfl,by decide,by decide,by decide⟩,by have:=N8.out;omega,by decide,by decide⟩)
  have R16:=hide (show ∀u,CK u g b v c d bs (YC (st0 N) 0) M 0 4 0 false 0 (N:Int) 0 0→u.cell? ⟨b,299,none⟩=some (.int .u8 ((n:Int)+1)) from fun u k=>by
   have q:=zhF k.1 16 (by decide);rw [HM.out] at q
   exact q)
  clear k4 o4 ST c8 r16 K3 B3 HM;go_upto_region 18 with fail;have c5:w4.cell? ⟨g,5,none⟩=some (.int .i64 57344):=K4.out.2.1.at 5 rfl;have c6:=K4.out.2.1.at 6 (y:=.bool false) rfl;have c15:=K4.out.2.1.at 15 (y:=.int .i64 0) rfl;have d8:=K4.out.2.1.at 8 (y:=.pointer (some ⟨b,0,none⟩)) rfl;have d16:=R16.out _ K4.out;have eb:=EB.out;go_wp2_with fail;refine (KV.out _ K4.out).mono ?_;rintro e w5 ⟨rfl,b5⟩;have B5:=hide (zaz B4.out b5);clear b5 B4 K4 KV R16 c5 c6 c15 d8 d16 HB HC HJ;go_wp2_with fail;go_ret;exact ⟨rfl,B5.out⟩
 ·skip
  go_enter Tryz.func3,Tryz.ntmps3;go_wp2_with fail;rw [EA.out];have b1:=(Below.refl W.heap.size W).alloc (Nat.le_refl _) (.cells #[.int .u8 212,.int .u8 169,.int .u8 248,.int .u8 83,.int .u8 2,.int .u8 230,.int .u8 16,.int .u8 128,.int .u8 252] 5);refine (zua (F:=true) (HT.out.1.next b1) (HT.out.2.1.next b1) (HT.out.2.2.next b1) (Nat.le_trans HG.out b1.size) (by simp) (fun k hk=>?cells)).mono ?_
  case cells=>
   rw [cell_of_row _ _ k _ _ _ (heap_alloc_new _ _)];rcases k with _|_|_|_|_|_|_|_|_|k<;>first|rfl|omega
  rintro e w2 ⟨g,b,v,c,d,bs,rfl,hc,hj,hk,hb,b2⟩;have HC:=hide hc;have HJ:=hide hj;have HK:=hide hk;have HB:=hide (show W.heap.size≤b∧W.heap.size≤v∧W.heap.size≤g from ⟨Nat.le_trans b1.size hb.1,Nat.le_trans b1.size hb.2.1,Nat.le_trans b1.size hb.2.2⟩);have B2:=hide (b1.trans (b2.mono b1.size));have HL2:=hide (zdo HLv.out ((b1.trans (b2.mono b1.size)).block _ HLv.out.pos));clear b1 b2 hc hj hk hb;go_wp2_with fail;obtain ⟨N,hN⟩:∃N:Nat,N=tkF true*(10*(n+1))+1:=⟨_,rfl⟩
  have hN2:N=3*(10*(n+1))+1:=hN;rw [show (30+30*(n:Int)+1)=(N:Int) by omega];refine (zxB HC.out N (by rw [hN];exact Nat.le_trans (show tkF true*(10*(n+1))+1≤tkF true*640+1 from Nat.succ_le_succ (Nat.mul_le_mul_left _ (by omega))) (by decide)) (by omega) HK.out HL2.out ⟨HB.out.1,HB.out.2.1,HB.out.2.2,HG.out,B2.out.size⟩).mono ?_;rintro e w3 ⟨⟨x,y,rfl⟩,⟨j,M,p,wait,k3,hP,hM⟩,b3⟩;have n8:N≤7692:=by omega
  rw [ph_n hN hP,show ((n+1:Nat):Int)=(n:Int)+1 by omega] at hM;have K3:=hide k3;have B3:=hide (B2.out.trans b3);have HM:=hide hM;have N8:=hide n8;have c8:=k3.2.1.at 8 (y:=.pointer (some ⟨b,0,none⟩)) rfl;have r16:=zhF k3.1 16 (by decide);rw [hM] at r16;have EB:=hide (show bits .and .i64 ((n:Int)+1) 255=(n:Int)+1 by rw [zlY];omega);clear k3 hP hM b3 hN hN2 n8 HK HL2 B2;go_upto_if 46 with fail;rw [EB.out,show ((n:Int)+1 != (n:Int)+1)=false by simp];go_wp2_with fail;have ST:st0 N≤63:=by unfold st0;split<;>decide
  refine (zom K3.out ST HC.out.1 HJ.out).mono ?_;rintro e w4 ⟨rfl,k4,o4⟩;have K4:=hide k4;have B4:=hide (show Below W.heap.size W w4 from B3.out.trans ⟨o4.1,o4.2.1,o4.2.2.1,o4.size,fun k hk=>o4.block k (by have:=B3.out.size;omega) (fun e=>by have:=HB.out;rcases e with (e|e)|e<;>omega)⟩)
  have KV:=hide (show ∀u,CK u g b v c d bs (YC (st0 N) 0) M 0 4 0 false 0 (N:Int) 0 0→Calls Tryz.prog 7 #[.pointer (some ⟨g,0,none⟩)] u fun e w'=>e=Ending.returned (.bool true)∧Below u.heap.size u w' from fun u k=>by
   obtain ⟨⟨R0,f0,l0,c0,m⟩,k2,_⟩:=k
   exact zix k2 m (vz_Y _ ST _ _ _ _ _) ⟨⟨by decide,by decide,by decide,by decide,by decide,by decide,by decide⟩,⟨.inl rfl,by decide,by decide,by decide⟩,by have:=N8.out;omega,by decide,by decide⟩)
  have R16:=hide (show ∀u,CK u g b v c d bs (YC (st0 N) 0) M 0 4 0 false 0 (N:Int) 0 0→u.cell? ⟨b,299,none⟩=some (.int .u8 ((n:Int)+1)) from fun u k=>by
   have q:=zhF k.1 16 (by decide);rw [HM.out] at q
   exact q)
  clear k4 o4 ST c8 r16 K3 B3 HM;go_upto_region 18 with fail;have c5:w4.cell? ⟨g,5,none⟩=some (.int .i64 57344):=K4.out.2.1.at 5 rfl;have c6:=K4.out.2.1.at 6 (y:=.bool false) rfl;have c15:=K4.out.2.1.at 15 (y:=.int .i64 0) rfl;have d8:=K4.out.2.1.at 8 (y:=.pointer (some ⟨b,0,none⟩)) rfl;have d16:=R16.out _ K4.out;have eb:=EB.out;go_wp2_with fail;refine (KV.out _ K4.out).mono ?_;rintro e w5 ⟨rfl,b5⟩;have B5:=hide (zaz B4.out b5);clear b5 B4 K4 KV R16 c5 c6 c15 d8 d16 HB HC HJ;go_wp2_with fail;go_ret;exact ⟨rfl,B5.out⟩
end Go.Proofs.YtdiidjehdginnaaGreatDoor
