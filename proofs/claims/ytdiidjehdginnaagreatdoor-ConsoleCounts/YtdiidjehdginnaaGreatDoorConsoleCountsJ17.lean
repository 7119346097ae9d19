/- Texts put together. -/
import Derived.Test.YtdiidjehdginnaaGreatDoorConsoleCountsJ15
import Derived.Test.YtdiidjehdginnaaGreatDoorConsoleCountsJ16
import Derived.Test.YtdiidjehdginnaaGreatDoorConsoleCountsJ01
import Derived.Test.YtdiidjehdginnaaGreatDoorProg
import Derived.Laws.Tables
import Derived.WalkMore
import Derived.Handy
import Derived.Laws.AppendOwn
import Derived.OwnWalk
import Derived.OneCell
import Derived.Test.YtdiidjehdginnaaGreatDoorRows
import Derived.Test.YtdiidjehdginnaaGreatDoorConsoleCountsJ05
namespace Go.Proofs.YtdiidjehdginnaaGreatDoor.L25
set_option maxHeartbeats 4000000
set_option maxRecDepth 20000
open A2 B4 C3 G6 I11 J23 K9 L24 M5 N8 O7 P22 R15 T10 V12 W13
open Go.RowKit
set_option linter.unusedVariables false
variable {f f':Bool} {a a' l l' p p':Int} {bs:List Int} {b c d g q q' v:Nat} {M:Nat→Int} {Y:Nat→Nat→Int} {w w':World}
theorem zzu (a x y s p q:Int) (f:Bool) (l n:Int) (hn:0≤n∧n<16777216) (w:World):Calls Tryz.prog 61 #[.agg #[.int .i64 a,.int .i64 x,.int .i64 y,.int .i64 s,.int .i64 p,.int .i64 q,.bool f,.int .i64 l],.int .i64 n] w fun e w'=>e=Ending.returned (.int .i64 (if f=true then 3*n else 12*n))∧Below w.heap.size w w':=by
 cases f
 ·rw [if_neg (by decide)];go_enter Tryz.func61,Tryz.ntmps61;go_wp2;go_ret;exact ⟨zat (by simp),(Below.refl _ _).alloc (Nat.le_refl _) _⟩
 ·rw [if_pos rfl];go_enter Tryz.func61,Tryz.ntmps61;go_wp2;go_ret;exact ⟨zat (by simp),(Below.refl _ _).alloc (Nat.le_refl _) _⟩
theorem zth (w:World):(zeroValue 64).run Tryz.prog w=.ok (.agg #[.int .i64 0,.int .i64 0,.int .i64 0,.int .i64 0,.int .i64 0,.int .i64 0,.bool false,.int .i64 0]) w:=by kernel_rfl
def CK (w:World) (g b v c d:Nat) (bs:List Int) (Y:Nat→Nat→Int) (M:Nat→Int) (a p:Int) (q:Nat) (f:Bool) (l tick wait back:Int):Prop:=
 HasC w b v c d bs Y M∧HasK w g b (rg a 0 0 0 p (57344+(q:Int))) f l 8 3 4 4 262 tick wait back∧(g≠b∧g≠v∧g≠c∧g≠d∧10≤g)∧(b<w.heap.size∧v<w.heap.size∧c<w.heap.size∧d<w.heap.size)
def EG (b v g:Nat) (k:Nat):Prop:=EX b v k∨k=g
theorem CK.next {tick wait back:Int} (h:CK w g b v c d bs Y M a p q f l tick wait back) (k:Below w.heap.size w w'):CK w' g b v c d bs Y M a p q f l tick wait back:=by
 obtain ⟨h1,h2,h3,h4⟩:=h;have s:=k.size;exact ⟨h1.next k,h2.next k,h3,by omega⟩
theorem CK.but {tick wait back:Int} (h:CK w g b v c d bs Y M a p q f l tick wait back) {z:Nat} (k:OnlyE (fun i=>i=z) w w') (hz:w.heap.size≤z∨(z≠b∧z≠v∧z≠c∧z≠d∧10≤z∧z≠g)):CK w' g b v c d bs Y M a p q f l tick wait back:=by
 obtain ⟨h1,h2,h3,h4⟩:=h;have s:=k.size;have lg:=lt_of_block h2;exact ⟨znR h1 k (by rcases hz with e|e<;>omega),k.obj h2 (by rcases hz with e|e<;>omega),h3,by omega⟩
theorem zgm {P Q:Nat→Prop} (k:OnlyE P w w') (h:∀i,P i→Q i):OnlyE Q w w':=⟨k.1,k.2.1,k.2.2.1,k.size,fun i hi hE=>k.block i hi (fun e=>hE (h i e))⟩
theorem zlK (k:OnlyE (EX b v) w w'):OnlyE (EG b v g) w w':=zgm k fun i e=>.inl e
theorem zei (k:Below w.heap.size w w'):OnlyE (EG b v g) w w':=zlK (zay k)
theorem zCs {tick wait back:Int} (h:CK w g b v c d bs Y M a p q f l tick wait back):w.rangeAt g 0 (#[.int .i64 a,.int .i64 0,.int .i64 0,.int .i64 0,.int .i64 p,.int .i64 (57344+(q:Int)),.bool f,.int .i64 l]:Array Value).toList:=zcW h.2.1 0 _ (by
 intro j y hy
 rcases j with _|_|_|_|_|_|_|_|j<;>first|exact hy|exact absurd hy (by simp))
theorem znT (k:But g w w'):OnlyE (fun i=>i=g) w w':=⟨k.1,k.2.1,k.2.2.1,k.size,fun i hi hE=>k.block i hi hE⟩
theorem eg_g (k:But g w w'):OnlyE (EG b v g) w w':=zgm (znT k) fun i e=>.inr e
theorem CK.own {tick wait back:Int} (h:CK w g b v c d bs Y M a p q f l tick wait back) (k:But g w w')    {tick' wait' back':Int} (hk:HasK w' g b (rg a' 0 0 0 p' (57344+(q':Int))) f' l' 8 3 4 4 262 tick' wait' back'):CK w' g b v c d bs Y M a' p' q' f' l' tick' wait' back':=by
 obtain ⟨h1,h2,h3,h4⟩:=h;have s:=k.size;exact ⟨znR h1 (znT k) h3,hk,h3,by omega⟩
theorem CK.wait {tick wait back:Int} (h:CK w g b v c d bs Y M a p q f l tick wait back) (x:Int):CK (w.setCell ⟨g,15,none⟩ (.int .i64 x)) g b v c d bs Y M a p q f l tick x back:=
 h.own ((But.refl g w).set 15 _) (heap_setCell_same w g 15 _ _ (.int .i64 x) h.2.1)
theorem CK.tick {tick wait back:Int} (h:CK w g b v c d bs Y M a p q f l tick wait back) (x:Int):CK (w.setCell ⟨g,14,none⟩ (.int .i64 x)) g b v c d bs Y M a p q f l x wait back:=
 h.own ((But.refl g w).set 14 _) (heap_setCell_same w g 14 _ _ (.int .i64 x) h.2.1)
theorem CK.core {tick wait back:Int} (h:CK w g b v c d bs Y M a p q f l tick wait back) :CK (w.setCells g 0 (#[.int .i64 a',.int .i64 0,.int .i64 0,.int .i64 0,.int .i64 p',.int .i64 (57344+(q':Int)),.bool f',.int .i64 l']:Array Value).toList) g b v c d bs Y M a' p' q' f' l' tick wait back:=by
 refine h.own (But.cells _ _ _ (But.refl g w)) ?_;have e:w.setCells g 0 (#[.int .i64 a',.int .i64 0,.int .i64 0,.int .i64 0,.int .i64 p',.int .i64 (57344+(q':Int)),.bool f',.int .i64 l']:Array Value).toList=((((((((w.setCell ⟨g,0,none⟩ (.int .i64 a')).setCell ⟨g,1,none⟩ (.int .i64 0)).setCell ⟨g,2,none⟩ (.int .i64 0)).setCell ⟨g,3,none⟩ (.int .i64 0)).setCell ⟨g,4,none⟩ (.int .i64 p')).setCell ⟨g,5,none⟩ (.int .i64 (57344+(q':Int)))).setCell ⟨g,6,none⟩ (.bool f')).setCell ⟨g,7,none⟩ (.int .i64 l')):=by kernel_rfl
 rw [e];have k:=h.2.1;unfold HasK at k ⊢;obtain ⟨c,hc⟩:∃c,conC b (rg a 0 0 0 p (57344+(q:Int))) f l 8 3 4 4 262 tick wait back=c:=⟨_,rfl⟩
 rw [hc] at k;have k0:=heap_setCell_same w g 0 _ _ (.int .i64 a') k;have k1:=heap_setCell_same _ g 1 _ _ (.int .i64 0) k0;have k2:=heap_setCell_same _ g 2 _ _ (.int .i64 0) k1;have k3:=heap_setCell_same _ g 3 _ _ (.int .i64 0) k2;have k4:=heap_setCell_same _ g 4 _ _ (.int .i64 p') k3;have k5:=heap_setCell_same _ g 5 _ _ (.int .i64 (57344+(q':Int))) k4;have k6:=heap_setCell_same _ g 6 _ _ (.bool f') k5;have k7:=heap_setCell_same _ g 7 _ _ (.int .i64 l') k6;refine k7.trans ?_;subst hc
 kernel_rfl
theorem CK.there {tick wait back:Int} (h:CK w g b v c d bs Y M a p q f l tick wait back) (o n:Nat) (hn:o+n≤17):w.there g o n:=fun j hj=>by
 refine ⟨?_,frozen_of_row w g _ _ _ h.2.1⟩;rw [cell_of_row w g _ _ _ _ h.2.1];have e:o+j<(conC b (rg a 0 0 0 p (57344+(q:Int))) f l 8 3 4 4 262 tick wait back).size:=by show o+j<17;omega
 rw [Array.getElem?_eq_getElem e];rfl
theorem cstep {tick wait back:Int} (h:CK w g b v c d bs Y M a p q f l tick wait back) {Y1 Y':Nat→Nat→Int} (hs:setZ Y=Y1) {M':Nat→Int} {cy:Int} (hgo:GoK bs Y1 M a p q f l Y' M' a' p' q' f' l' cy) (hcy:0≤cy∧cy<1000) {T:Int} (hT:(if f'=true then 3*cy else 12*cy)=T):
  Calls Tryz.prog 29 #[.pointer (some ⟨g,0,none⟩)] w fun e w'=>e=Ending.returned (.tuple #[])∧CK w' g b v c d bs Y' M' a' p' q' f' l' tick T back∧OnlyE (EG b v g) w w':=by
 have n:=h.2.2.1;have m:=h.2.2.2;obtain ⟨A,hA⟩:∃A:World→Prop,A=fun x=>CK x g b v c d bs Y M a p q f l tick wait back∧Below w.heap.size w x:=⟨_,rfl⟩
 obtain ⟨B,hB⟩:∃B:World→Prop,B=fun x=>CK x g b v c d bs Y' M' a p q f l tick wait back∧OnlyE (EX b v) w x:=⟨_,rfl⟩
 have AX:=hide (fun x (k:A x)=>show CK x g b v c d bs Y M a p q f l tick wait back∧Below w.heap.size w x by rw [hA] at k;exact k);have BX:=hide (fun x (k:B x)=>show CK x g b v c d bs Y' M' a p q f l tick wait back∧OnlyE (EX b v) w x by rw [hB] at k;exact k);have A0:=hide (show A w.drew by rw [hA];exact ⟨h.next (Below.refl _ w).drew,(Below.refl _ w).drew⟩);have SA:Stab A:=fun x y k j=>by rw [hA];exact ⟨(AX.out x k).1.next j,zaz (AX.out x k).2 j⟩
 have SB:Stab B:=fun x y k j=>by rw [hB];exact ⟨(BX.out x k).1.next j,(BX.out x k).2.trans (zay j)⟩
 have TB:zzt 64 #[.int .i64 a',.int .i64 0,.int .i64 0,.int .i64 0,.int .i64 p',.int .i64 (57344+(q':Int)),.bool f',.int .i64 l'] w.heap.size B:=fun x z cs l3 e3 k=>by
  have j:OnlyE (fun i=>i=z) x (x.setRow z #[.int .i64 a',.int .i64 0,.int .i64 0,.int .i64 0,.int .i64 p',.int .i64 (57344+(q':Int)),.bool f',.int .i64 l']):=⟨rfl,rfl,rfl,by simp [World.setRow],fun i hi hE=>setRow_other x z i _ hE⟩
  have o:=(BX.out x k).2;rw [hB];have lg:=lt_of_block h.2.1;have hz:10≤w.heap.size:=by obtain ⟨_,_,_,_,mm⟩:=h.1;exact mm.size
  refine ⟨(BX.out x k).1.but j (.inr ⟨by omega,by omega,by omega,by omega,by omega,by omega⟩),zjs o j l3⟩
 have KS:=hide (show ∀x,A x→Calls Tryz.prog 60 #[.agg #[.int .i64 a,.int .i64 0,.int .i64 0,.int .i64 0,.int .i64 p,.int .i64 (57344+(q:Int)),.bool f,.int .i64 l],.pointer (some ⟨b,0,none⟩)] x fun e x2=>e=Ending.returned (.tuple #[.agg #[.int .i64 a',.int .i64 0,.int .i64 0,.int .i64 0,.int .i64 p',.int .i64 (57344+(q':Int)),.bool f',.int .i64 l'],.int .i64 cy])∧B x2∧x.heap.size≤x2.heap.size∧∀k,w.heap.size≤k→k<x.heap.size→x2.heap[k]? = x.heap[k]? from fun x k=>by
  obtain ⟨k1,k2⟩:=AX.out x k;refine (hgo x b v c d Y hs k1.1).mono fun e x2 ⟨r,m2,o⟩=>⟨r,?_,o.size,fun j l3 l4=>o.block j l4 (fun e=>by rcases e with rfl|rfl<;>omega)⟩
  rw [hB];have s:=o.size;have mm:=k1.2.2.2
  exact ⟨⟨m2,o.obj k1.2.1 (fun e=>by rcases e with e|e<;>omega),n,by omega⟩,(zay k2).trans o⟩)
 have RA:=hide (fun x (k:A x)=>zCs (AX.out x k).1);have PA:=hide (fun x (k:A x)=>(AX.out x k).1.2.1.at 8 (y:=.pointer (some ⟨b,0,none⟩)) rfl);have KT:=hide (fun x=>zzu a' 0 0 0 p' (57344+(q':Int)) f' l' cy (by omega) x);rw [hT] at KT;clear hT;have LG:=hide (lt_of_block h.2.1);have NN:=hide n;clear hA hB hgo h hs;go_enter Tryz.func29,Tryz.ntmps29;go_wp2_with fail;refine zdG (zCr [fun zv=>zv=.pointer (some ⟨g,0,none⟩),fun zv=>zv=.pointer (some ⟨g,0,none⟩),fun zv=>zv=.pointer (some ⟨g,0,none⟩),fun zv=>zv=.agg #[.int .i64 a,.int .i64 0,.int .i64 0,.int .i64 0,.int .i64 p,.int .i64 (57344+(q:Int)),.bool f,.int .i64 l],fun zv=>zv=.pointer (some ⟨g,0,none⟩),fun zv=>zv=.pointer (some ⟨g,0,none⟩),fun zv=>zv=.pointer (some ⟨g,8,none⟩),fun zv=>zv=.pointer (some ⟨b,0,none⟩),fun zv=>zv=.tuple #[.agg #[.int .i64 a',.int .i64 0,.int .i64 0,.int .i64 0,.int .i64 p',.int .i64 (57344+(q':Int)),.bool f',.int .i64 l'],.int .i64 cy],fun zv=>zv=.tuple #[.agg #[.int .i64 a',.int .i64 0,.int .i64 0,.int .i64 0,.int .i64 p',.int .i64 (57344+(q':Int)),.bool f',.int .i64 l'],.int .i64 cy],fun zv=>zv=.agg #[.int .i64 a',.int .i64 0,.int .i64 0,.int .i64 0,.int .i64 p',.int .i64 (57344+(q':Int)),.bool f',.int .i64 l'],fun zv=>zv=.int .i64 cy,fun zv=>∃z,zv=.pointer (some ⟨z,0,none⟩),fun _=>True,fun zv=>zv=.int .i64 cy]) (varS A B (fun _ _ _=>True) 8 12 13 w.heap.size #[.int .i64 0,.int .i64 0,.int .i64 0,.int .i64 0,.int .i64 0,.int .i64 0,.bool false,.int .i64 0] #[.int .i64 a',.int .i64 0,.int .i64 0,.int .i64 0,.int .i64 p',.int .i64 (57344+(q':Int)),.bool f',.int .i64 l'] 64) _ (fun u=>by simp only [zaA,Act.put,List.setIfInBounds_toArray,List.set_cons_succ,List.set_cons_zero,Nat.reduceAdd];rfl) (by kernel_rfl) (by kernel_rfl) (by kernel_rfl) (fun u dn hd=>zlI hd (A0.out) (Nat.le_refl _)) ?_ ?_
 ·refine zag (fun u dn x hi hc hk hs=>?_) (zag (fun u dn x hi hc hk hs=>?_) (zag (fun u dn x hi hc hk hs=>?_) (zag (fun u dn x hi hc hk hs=>?_) (zag (fun u dn x hi hc hk hs=>?_) (zag (fun u dn x hi hc hk hs=>?_) (zag (fun u dn x hi hc hk hs=>?_) (zag (fun u dn x hi hc hk hs=>?_) (zag (fun u dn x hi hc hk hs=>?_) (zag (fun u dn x hi hc hk hs=>?_) (zag (fun u dn x hi hc hk hs=>?_) (zag (fun u dn x hi hc hk hs=>?_) (zag (fun u dn x hi hc hk hs=>?_) (zag (fun u dn x hi hc hk hs=>?_) (zag (fun u dn x hi hc hk hs=>?_) zgK))))))))))))))
  ·go_wp2_with fail;exact zal _ rfl rfl (zas (by decide) (by decide) (by decide) hs trivial)
  ·obtain ⟨⟨(h0:u 0=.pointer (some ⟨g,0,none⟩)),t0⟩,_⟩:=hk;simp only [h0];clear h0;go_wp2_with fail;exact zal _ rfl rfl (zas (by decide) (by decide) (by decide) hs trivial)
  ·obtain ⟨⟨(h1:u 1=.pointer (some ⟨g,0,none⟩)),t1⟩,_⟩:=hk;simp only [h1];clear h1;go_wp2_with fail;exact zal _ rfl rfl (zas (by decide) (by decide) (by decide) hs trivial)
  ·obtain ⟨⟨(h2:u 2=.pointer (some ⟨g,0,none⟩)),t2⟩,_⟩:=hk;simp only [h2];clear h2;have q:=hide (hs.1 (zap hc hi 8 60 (by kernel_rfl)));refine wpList_load_mid rfl 64 (.tmp 7) rfl g 0 rfl _ _ (RA.out x q.out) Tryz.underlying64 rfl (by kernel_rfl) ?_;exact zal _ rfl rfl (zas (by decide) (by decide) (by decide) hs trivial)
  ·go_wp2_with fail;exact zal _ rfl rfl (zas (by decide) (by decide) (by decide) hs trivial)
  ·obtain ⟨⟨(h4:u 4=.pointer (some ⟨g,0,none⟩)),t4⟩,_⟩:=hk;simp only [h4];clear h4;go_wp2_with fail;exact zal _ rfl rfl (zas (by decide) (by decide) (by decide) hs trivial)
  ·obtain ⟨⟨(h5:u 5=.pointer (some ⟨g,0,none⟩)),t5⟩,_⟩:=hk;simp only [h5];clear h5;go_wp2_with fail;exact zal _ rfl rfl (zas (by decide) (by decide) (by decide) hs trivial)
  ·obtain ⟨⟨(h6:u 6=.pointer (some ⟨g,8,none⟩)),t6⟩,_⟩:=hk;simp only [h6];clear h6;have q:=PA.out x (hs.1 (zap hc hi 8 60 (by kernel_rfl)));go_wp2_with fail;exact zal _ rfl rfl (zas (by decide) (by decide) (by decide) hs trivial)
  ·obtain ⟨⟨(h3:u 3=.agg #[.int .i64 a,.int .i64 0,.int .i64 0,.int .i64 0,.int .i64 p,.int .i64 (57344+(q:Int)),.bool f,.int .i64 l]),t3⟩,⟨(h7:u 7=.pointer (some ⟨b,0,none⟩)),t7⟩,_⟩:=hk;simp only [h3,h7];clear h3 h7;have HA:=hide (hs.1 hi);have HS:=hide hs;clear hs;go_wp2_with fail;refine (KS.out x HA.out).mono ?_;rintro e x2 ⟨rfl,h2,z2,k2⟩;have H2:=hide h2;have Z2:=hide z2;have K2:=hide k2;clear h2 z2 k2;go_wp2_with fail;exact zal _ rfl rfl (zlJ (by decide) (by decide) HS.out H2.out Z2.out K2.out trivial (fun _ _ _ _ _=>trivial))
  ·obtain ⟨⟨(h8:u 8=.tuple #[.agg #[.int .i64 a',.int .i64 0,.int .i64 0,.int .i64 0,.int .i64 p',.int .i64 (57344+(q':Int)),.bool f',.int .i64 l'],.int .i64 cy]),t8⟩,_⟩:=hk;simp only [h8];clear h8;go_wp2_with fail;exact zal _ rfl rfl (zas (by decide) (by decide) (by decide) hs trivial)
  ·obtain ⟨⟨(h9:u 9=.tuple #[.agg #[.int .i64 a',.int .i64 0,.int .i64 0,.int .i64 0,.int .i64 p',.int .i64 (57344+(q':Int)),.bool f',.int .i64 l'],.int .i64 cy]),t9⟩,_⟩:=hk;simp only [h9];clear h9;go_wp2_with fail;exact zal _ rfl rfl (zas (by decide) (by decide) (by decide) hs trivial)
  ·obtain ⟨⟨(h9:u 9=.tuple #[.agg #[.int .i64 a',.int .i64 0,.int .i64 0,.int .i64 0,.int .i64 p',.int .i64 (57344+(q':Int)),.bool f',.int .i64 l'],.int .i64 cy]),t9⟩,_,_⟩:=hk;simp only [h9];clear h9;go_wp2_with fail;exact zal _ rfl rfl (zas (by decide) (by decide) (by decide) hs trivial)
  ·refine zav rfl 64 rfl #[.int .i64 0,.int .i64 0,.int .i64 0,.int .i64 0,.int .i64 0,.int .i64 0,.bool false,.int .i64 0] zth ?_;exact zal _ rfl ⟨_,rfl⟩ (zpV (by decide) (by decide) SA SB (fun _ _ _ _ h _=>h) hs (zap hc hi 13 60 (by kernel_rfl)) (fun _ _=>trivial))
  ·obtain ⟨⟨h12,t12⟩,⟨(h10:u 10=.agg #[.int .i64 a',.int .i64 0,.int .i64 0,.int .i64 0,.int .i64 p',.int .i64 (57344+(q':Int)),.bool f',.int .i64 l']),t10⟩,⟨(h8:u 8=.tuple #[.agg #[.int .i64 a',.int .i64 0,.int .i64 0,.int .i64 0,.int .i64 p',.int .i64 (57344+(q':Int)),.bool f',.int .i64 l'],.int .i64 cy]),t8⟩,⟨(h0:u 0=.pointer (some ⟨g,0,none⟩)),t0⟩,⟨(h1:u 1=.pointer (some ⟨g,0,none⟩)),t1⟩,⟨(h2:u 2=.pointer (some ⟨g,0,none⟩)),t2⟩,⟨(h3:u 3=.agg #[.int .i64 a,.int .i64 0,.int .i64 0,.int .i64 0,.int .i64 p,.int .i64 (57344+(q:Int)),.bool f,.int .i64 l]),t3⟩,⟨(h4:u 4=.pointer (some ⟨g,0,none⟩)),t4⟩,⟨(h5:u 5=.pointer (some ⟨g,0,none⟩)),t5⟩,⟨(h6:u 6=.pointer (some ⟨g,8,none⟩)),t6⟩,⟨(h7:u 7=.pointer (some ⟨b,0,none⟩)),t7⟩,_,⟨(h9:u 9=.tuple #[.agg #[.int .i64 a',.int .i64 0,.int .i64 0,.int .i64 0,.int .i64 p',.int .i64 (57344+(q':Int)),.bool f',.int .i64 l'],.int .i64 cy]),t9⟩,_,_,_,_⟩:=hk;simp only [h10];clear h10 h8 h0 h1 h2 h3 h4 h5 h6 h7 h9;obtain ⟨z,e1,e2,e3⟩:=hs.2.2.2.1 t12;rw [hi] at e3;simp only [e1];refine wpList_store_row rfl 64 (.tmp 2) (.tmp 14) rfl z _ rfl rfl 64 _ e3 (by kernel_rfl) rfl (by kernel_rfl) ?_;exact zal _ rfl trivial (zpW (by decide) (by decide) TB (fun _ _ _ _ _ _ _ h=>h) hs hi t8 e1 e2 e3 (fun _ _=>trivial))
  ·obtain ⟨⟨(h11:u 11=.int .i64 cy),t11⟩,⟨h13,t13⟩,⟨(h0:u 0=.pointer (some ⟨g,0,none⟩)),t0⟩,⟨(h1:u 1=.pointer (some ⟨g,0,none⟩)),t1⟩,⟨(h2:u 2=.pointer (some ⟨g,0,none⟩)),t2⟩,⟨(h3:u 3=.agg #[.int .i64 a,.int .i64 0,.int .i64 0,.int .i64 0,.int .i64 p,.int .i64 (57344+(q:Int)),.bool f,.int .i64 l]),t3⟩,⟨(h4:u 4=.pointer (some ⟨g,0,none⟩)),t4⟩,⟨(h5:u 5=.pointer (some ⟨g,0,none⟩)),t5⟩,⟨(h6:u 6=.pointer (some ⟨g,8,none⟩)),t6⟩,⟨(h7:u 7=.pointer (some ⟨b,0,none⟩)),t7⟩,⟨(h8:u 8=.tuple #[.agg #[.int .i64 a',.int .i64 0,.int .i64 0,.int .i64 0,.int .i64 p',.int .i64 (57344+(q':Int)),.bool f',.int .i64 l'],.int .i64 cy]),t8⟩,⟨(h9:u 9=.tuple #[.agg #[.int .i64 a',.int .i64 0,.int .i64 0,.int .i64 0,.int .i64 p',.int .i64 (57344+(q':Int)),.bool f',.int .i64 l'],.int .i64 cy]),t9⟩,⟨(h10:u 10=.agg #[.int .i64 a',.int .i64 0,.int .i64 0,.int .i64 0,.int .i64 p',.int .i64 (57344+(q':Int)),.bool f',.int .i64 l']),t10⟩,_,⟨h12,t12⟩,_,_⟩:=hk;simp only [h11];clear h11 h0 h1 h2 h3 h4 h5 h6 h7 h8 h9 h10;go_wp2_with fail;exact zal _ rfl rfl (zas (by decide) (by decide) (by decide) hs trivial)
 rintro u dn x hall hs hv;obtain ⟨hb,z,e1,e2,e3⟩:=zwb hs (hall 8 (by decide)) (hall 12 (by decide)) (hall 13 (by decide));obtain ⟨_,_,_,_,_,_,_,_,_,_,_,_,_,_,(h14:u 14=.int .i64 cy),_⟩:=hv;simp only [e1,h14];clear e1 h14;obtain ⟨cb,ob⟩:=BX.out x hb;have C0:=hide cb;have O0:=hide ob;have ZZ:=hide (show w.heap.size≤z∧z<x.heap.size from ⟨e2,lt_of_block e3⟩);have R0:=hide e3;have GZ:=hide (show z≠g by have:=LG.out;omega);clear cb ob e2 e3 hb hs hall AX BX A0 SA SB TB KS RA PA;obtain ⟨S0,hS0⟩:∃S:World→Prop,S=fun y=>CK y g b v c d bs Y' M' a p q f l tick wait back∧OnlyE (EG b v g) w y∧y.heap[z]? = some (.cells #[.int .i64 a',.int .i64 0,.int .i64 0,.int .i64 0,.int .i64 p',.int .i64 (57344+(q':Int)),.bool f',.int .i64 l'] 64 (0,0)):=⟨_,rfl⟩
 obtain ⟨S1,hS1⟩:∃S:World→Prop,S=fun y=>CK y g b v c d bs Y' M' a' p' q' f' l' tick wait back∧OnlyE (EG b v g) w y:=⟨_,rfl⟩
 obtain ⟨S2,hS2⟩:∃S:World→Prop,S=fun y=>CK y g b v c d bs Y' M' a' p' q' f' l' tick T back∧OnlyE (EG b v g) w y:=⟨_,rfl⟩
 have Q0:=hide (fun y (k:S0 y)=>show CK y g b v c d bs Y' M' a p q f l tick wait back∧OnlyE (EG b v g) w y∧y.heap[z]? = some (.cells #[.int .i64 a',.int .i64 0,.int .i64 0,.int .i64 0,.int .i64 p',.int .i64 (57344+(q':Int)),.bool f',.int .i64 l'] 64 (0,0)) by rw [hS0] at k;exact k);have Q1:=hide (fun y (k:S1 y)=>show CK y g b v c d bs Y' M' a' p' q' f' l' tick wait back∧OnlyE (EG b v g) w y by rw [hS1] at k;exact k);have Q2:=hide (fun y (k:S2 y)=>show CK y g b v c d bs Y' M' a' p' q' f' l' tick T back∧OnlyE (EG b v g) w y by rw [hS2] at k;exact k);have Z0:=hide (show S0 x.drew by rw [hS0];exact ⟨C0.out.next (Below.refl _ x).drew,(zlK O0.out).trans (zei (Below.refl _ x).drew),R0.out⟩)
 have SS:=hide (show ∀A,A ∈ [S0,S1,S2]→Stab A by
  intro A hA y y' k j;simp only [List.mem_cons,List.not_mem_nil,or_false] at hA;rcases hA with rfl|rfl|rfl
  ·rw [hS0];exact ⟨(Q0.out y k).1.next j,(Q0.out y k).2.1.trans (zei j),zbY (Q0.out y k).2.2 j⟩
  ·rw [hS1];exact ⟨(Q1.out y k).1.next j,(Q1.out y k).2.trans (zei j)⟩
  ·rw [hS2];exact ⟨(Q2.out y k).1.next j,(Q2.out y k).2.trans (zei j)⟩)
 have P1:=hide (fun y (k:S0 y)=>show S1 (y.setCells g 0 (#[.int .i64 a',.int .i64 0,.int .i64 0,.int .i64 0,.int .i64 p',.int .i64 (57344+(q':Int)),.bool f',.int .i64 l']:Array Value).toList) by rw [hS1];exact ⟨(Q0.out y k).1.core,(Q0.out y k).2.1.trans (eg_g (But.cells _ _ _ (But.refl g y)))⟩);have P2:=hide (fun y (k:S1 y)=>show S2 (y.setCell ⟨g,15,none⟩ (.int .i64 T)) by rw [hS2];exact ⟨(Q1.out y k).1.wait T,(Q1.out y k).2.trans (eg_g ((But.refl g y).set 15 _))⟩);have RZ:=hide (fun y (k:S0 y)=>(Q0.out y k).2.2);have TH:=hide (fun y (k:S0 y)=>(Q0.out y k).1.there 0 8 (by decide));have CW:=hide (fun y (k:S1 y)=>(Q1.out y k).1.2.1.at 15 (y:=.int .i64 wait) rfl);have FW:=hide (fun y (k:S1 y)=>frozen_of_row y g 15 _ _ (Q1.out y k).1.2.1);clear hS0 hS1 hS2 C0 O0 R0;go_wp2_with fail;refine zaD (zcx [.pointer (some ⟨g,0,none⟩),.pointer (some ⟨g,0,none⟩),.agg #[.int .i64 a',.int .i64 0,.int .i64 0,.int .i64 0,.int .i64 p',.int .i64 (57344+(q':Int)),.bool f',.int .i64 l'],.agg #[.int .i64 a',.int .i64 0,.int .i64 0,.int .i64 0,.int .i64 p',.int .i64 (57344+(q':Int)),.bool f',.int .i64 l'],.int .i64 cy,.int .i64 T,.pointer (some ⟨g,0,none⟩),.pointer (some ⟨g,0,none⟩),undef,.pointer (some ⟨g,0,none⟩),.pointer (some ⟨g,15,none⟩),undef]) (fun dd ww=>(stgs [S0,S1,S2]) (cntD [8,11] dd) ww) _ (fun u=>by simp only [zaA,Act.put,List.setIfInBounds_toArray,List.set_cons_succ,List.set_cons_zero,Nat.reduceAdd];rfl) (by kernel_rfl) (by kernel_rfl) (by kernel_rfl) (fun dn hd=>zbe hd (Z0.out)) ?_ ?_
 ·repeat' first|refine zaW (fun u dn x hi hc hk hs=>?_) ?_|exact zbb
  ·go_wp2_with fail;exact zad _ rfl rfl (zac rfl hs)
  ·obtain ⟨_,_⟩:=hk;go_wp2_with fail;exact zad _ rfl rfl (zac rfl hs)
  ·have d8:=zap hc hi 8 60 (by kernel_rfl);have d11:=zap hc hi 11 60 (by kernel_rfl);have hn:cntD [8,11] dn=0:=by simp only [cntD,d8,d11];rfl
   have hs1:=zan hn hs;refine wpList_load_row rfl 64 (.tmp 2) rfl z rfl _ _ _ _ (RZ.out x hs1) Tryz.underlying64 rfl (by kernel_rfl) ?_;exact zad _ rfl rfl (zac rfl hs)
  ·have d8:=zap hc hi 8 60 (by kernel_rfl);have d11:=zap hc hi 11 60 (by kernel_rfl);have hn:cntD [8,11] dn=0:=by simp only [cntD,d8,d11];rfl
   have hs1:=zan hn hs;refine wpList_load_row rfl 64 (.tmp 2) rfl z rfl _ _ _ _ (RZ.out x hs1) Tryz.underlying64 rfl (by kernel_rfl) ?_;exact zad _ rfl rfl (zac rfl hs)
  ·go_wp2_with fail;exact zad _ rfl rfl (zac rfl hs)
  ·obtain ⟨⟨(h3:u 3=.agg #[.int .i64 a',.int .i64 0,.int .i64 0,.int .i64 0,.int .i64 p',.int .i64 (57344+(q':Int)),.bool f',.int .i64 l']),t3⟩,⟨(h4:u 4=.int .i64 cy),t4⟩,_⟩:=hk;simp only [h3,h4];clear h3 h4;have d8:=zap hc hi 8 60 (by kernel_rfl);have d11:=zap hc hi 11 60 (by kernel_rfl);have hn:cntD [8,11] dn=0:=by simp only [cntD,d8,d11];rfl
   have hs1:=zan hn hs;have HS:=hide hs;have HS1:=hide hs1;clear hs hs1;go_wp2_with fail;refine (KT.out _).mono ?_;rintro e x2 ⟨rfl,b2⟩;have H2:=hide (zdj SS.out HS.out b2);clear b2 HS HS1;go_wp2_with fail;exact zad _ rfl rfl (zac rfl H2.out)
  ·obtain ⟨⟨(h0:u 0=.pointer (some ⟨g,0,none⟩)),t0⟩,_,_,⟨(h2:u 2=.agg #[.int .i64 a',.int .i64 0,.int .i64 0,.int .i64 0,.int .i64 p',.int .i64 (57344+(q':Int)),.bool f',.int .i64 l']),t2⟩,_,_,⟨(h5:u 5=.int .i64 T),t5⟩,_⟩:=hk;simp only [h0];clear h0 h2 h5;go_wp2_with fail;exact zad _ rfl rfl (zac rfl hs)
  ·obtain ⟨⟨(h6:u 6=.pointer (some ⟨g,0,none⟩)),t6⟩,⟨(h0:u 0=.pointer (some ⟨g,0,none⟩)),t0⟩,_,⟨(h2:u 2=.agg #[.int .i64 a',.int .i64 0,.int .i64 0,.int .i64 0,.int .i64 p',.int .i64 (57344+(q':Int)),.bool f',.int .i64 l']),t2⟩,_,_,⟨(h5:u 5=.int .i64 T),t5⟩,_⟩:=hk;simp only [h6];clear h6 h0 h2 h5;go_wp2_with fail;exact zad _ rfl rfl (zac rfl hs)
  ·obtain ⟨⟨(h7:u 7=.pointer (some ⟨g,0,none⟩)),t7⟩,⟨(h2:u 2=.agg #[.int .i64 a',.int .i64 0,.int .i64 0,.int .i64 0,.int .i64 p',.int .i64 (57344+(q':Int)),.bool f',.int .i64 l']),t2⟩,⟨(h5:u 5=.int .i64 T),t5⟩,⟨(h0:u 0=.pointer (some ⟨g,0,none⟩)),t0⟩,_,_,_,_,_,_⟩:=hk;simp only [h7,h2];clear h7 h2 h5 h0;have d8:=hi;have d11:=zap hc hi 11 60 (by kernel_rfl);have hn:cntD [8,11] dn=0:=by simp only [cntD,d8,d11];rfl
   have hs1:=zan hn hs;have hn2:cntD [8,11] (updD dn 8)=1:=by show (if updD dn 8 8=true then 1 else 0)+((if updD dn 8 11=true then 1 else 0)+0)=1;rw [zaI,zar dn (show ¬11=8 by decide),d11];rfl
   have HN2:=hide hn2;clear hn hn2 d11;have H2:=hide (P1.out x hs1);refine wpList_store_mid rfl 64 (.tmp 23) (.tmp 18) rfl g 0 #[.int .i64 a',.int .i64 0,.int .i64 0,.int .i64 0,.int .i64 p',.int .i64 (57344+(q':Int)),.bool f',.int .i64 l'] rfl rfl (TH.out x hs1) (by kernel_rfl) (by kernel_rfl) ?_;exact zad _ rfl rfl (zbu HN2.out H2.out)
  ·obtain ⟨⟨(h1:u 1=.pointer (some ⟨g,0,none⟩)),t1⟩,⟨(h0:u 0=.pointer (some ⟨g,0,none⟩)),t0⟩,_,⟨(h2:u 2=.agg #[.int .i64 a',.int .i64 0,.int .i64 0,.int .i64 0,.int .i64 p',.int .i64 (57344+(q':Int)),.bool f',.int .i64 l']),t2⟩,⟨(h3:u 3=.agg #[.int .i64 a',.int .i64 0,.int .i64 0,.int .i64 0,.int .i64 p',.int .i64 (57344+(q':Int)),.bool f',.int .i64 l']),t3⟩,⟨(h4:u 4=.int .i64 cy),t4⟩,⟨(h5:u 5=.int .i64 T),t5⟩,⟨(h6:u 6=.pointer (some ⟨g,0,none⟩)),t6⟩,⟨(h7:u 7=.pointer (some ⟨g,0,none⟩)),t7⟩,⟨(h8:u 8=undef),t8⟩,_⟩:=hk;simp only [h1];clear h1 h0 h2 h3 h4 h5 h6 h7 h8;go_wp2_with fail;exact zad _ rfl rfl (zac rfl hs)
  ·obtain ⟨⟨(h9:u 9=.pointer (some ⟨g,0,none⟩)),t9⟩,⟨(h0:u 0=.pointer (some ⟨g,0,none⟩)),t0⟩,⟨(h1:u 1=.pointer (some ⟨g,0,none⟩)),t1⟩,⟨(h2:u 2=.agg #[.int .i64 a',.int .i64 0,.int .i64 0,.int .i64 0,.int .i64 p',.int .i64 (57344+(q':Int)),.bool f',.int .i64 l']),t2⟩,⟨(h3:u 3=.agg #[.int .i64 a',.int .i64 0,.int .i64 0,.int .i64 0,.int .i64 p',.int .i64 (57344+(q':Int)),.bool f',.int .i64 l']),t3⟩,⟨(h4:u 4=.int .i64 cy),t4⟩,⟨(h5:u 5=.int .i64 T),t5⟩,⟨(h6:u 6=.pointer (some ⟨g,0,none⟩)),t6⟩,⟨(h7:u 7=.pointer (some ⟨g,0,none⟩)),t7⟩,⟨(h8:u 8=undef),t8⟩,_⟩:=hk;simp only [h9];clear h9 h0 h1 h2 h3 h4 h5 h6 h7 h8;go_wp2_with fail;exact zad _ rfl rfl (zac rfl hs)
  ·obtain ⟨⟨(h10:u 10=.pointer (some ⟨g,15,none⟩)),t10⟩,⟨(h5:u 5=.int .i64 T),t5⟩,⟨(h8:u 8=undef),t8⟩,⟨(h0:u 0=.pointer (some ⟨g,0,none⟩)),t0⟩,⟨(h1:u 1=.pointer (some ⟨g,0,none⟩)),t1⟩,⟨(h2:u 2=.agg #[.int .i64 a',.int .i64 0,.int .i64 0,.int .i64 0,.int .i64 p',.int .i64 (57344+(q':Int)),.bool f',.int .i64 l']),t2⟩,⟨(h3:u 3=.agg #[.int .i64 a',.int .i64 0,.int .i64 0,.int .i64 0,.int .i64 p',.int .i64 (57344+(q':Int)),.bool f',.int .i64 l']),t3⟩,⟨(h4:u 4=.int .i64 cy),t4⟩,_,⟨(h6:u 6=.pointer (some ⟨g,0,none⟩)),t6⟩,⟨(h7:u 7=.pointer (some ⟨g,0,none⟩)),t7⟩,_,_⟩:=hk;simp only [h10,h5];clear h10 h5 h8 h0 h1 h2 h3 h4 h6 h7;have d8:=t8;have d11:=hi;have hn:cntD [8,11] dn=1:=by simp only [cntD,d8,d11];rfl
   have hs1:=zan hn hs;have hn2:cntD [8,11] (updD dn 11)=2:=by show (if updD dn 11 8=true then 1 else 0)+((if updD dn 11 11=true then 1 else 0)+0)=2;rw [zar dn (show ¬8=11 by decide),zaI,d8];rfl
   have HN2:=hide hn2;clear hn hn2 d8;have q:=CW.out x hs1;have z:=FW.out x hs1;have H2:=hide (P2.out x hs1);clear hs hs1;go_wp2_with fail;exact zad _ rfl rfl (zbu HN2.out H2.out)
 rintro u dn x hall hs hv;clear hv;have hn:cntD [8,11] dn=2:=by show (if dn 8=true then 1 else 0)+((if dn 11=true then 1 else 0)+0)=2;rw [hall 8 (by decide),hall 11 (by decide)];rfl
 have hs:=zan hn hs;clear hn hall;have hs:S2 x:=hs;have XX:=hide (Q2.out x hs);clear hs;go_wp2_with fail;go_end0;exact ⟨rfl,XX.out.1,XX.out.2⟩
end Go.Proofs.YtdiidjehdginnaaGreatDoor.L25
namespace Go.Proofs.YtdiidjehdginnaaGreatDoor
set_option maxHeartbeats 4000000
set_option maxRecDepth 20000
open Go.RowKit
set_option linter.unusedVariables false
variable {zs:List Int} {N g:Nat} {F:Nat→Int} {a:Option Addr} {w w':World}
def rowN (F:Nat→Int) (N:Nat):List Value:=(List.range N).map fun (j:Nat)=>Value.int .i64 (F j)
theorem zcz (F:Nat→Int) (N:Nat):(rowN F N).length=N:=by simp [rowN]
theorem zku (F:Nat→Int) (N j:Nat) (h:j<N):(rowN F N)[j]? = some (.int .i64 (F j)):=by simp [rowN,h]
theorem zwc {G:Nat→Int} (h:∀j,j<N→F j=G j):rowN F N=rowN G N:=by
 unfold rowN;apply List.map_congr_left;intro j hj;rw [h j (List.mem_range.1 hj)]
theorem zwd (F:Nat→Int) (N x:Nat) (v:Int):(rowN F N).set x (.int .i64 v)=rowN (fun j=>if j=x then v else F j) N:=by
 apply List.ext_getElem?;intro j;rw [List.getElem?_set,zcz]
 by_cases k:j<N
 ·rw [zku _ _ _ k,zku _ _ _ k]
  by_cases e:x=j
  ·subst e;simp [k]
  ·rw [if_neg e,if_neg (fun h=>e h.symm)]
 ·rw [List.getElem?_eq_none (by rw [zcz];omega),List.getElem?_eq_none (by rw [zcz];omega)]
  by_cases e:x=j
  ·subst e;simp [k]
  ·rw [if_neg e]
def RowN (w:World) (g N:Nat) (F:Nat→Int):Prop:=w.heap[g]? = some (.cells (rowN F N).toArray 3 (0,0))
theorem RowN.lt (h:RowN w g N F):g<w.heap.size:=lt_of_block h
theorem RowN.next (h:RowN w g N F) (k:Below w.heap.size w w'):RowN w' g N F:=(k.block g (lt_of_block h)).trans h
theorem RowN.at (h:RowN w g N F) (j:Nat) (hj:j<N):w.cell? ⟨g,j,none⟩=some (.int .i64 (F j)):=by rw [cell_of_row w g j _ _ _ h,List.getElem?_toArray];exact zku _ _ _ hj
theorem RowN.frozen (h:RowN w g N F) (j:Nat):w.frozen? ⟨g,j,none⟩=false:=frozen_of_row w g j _ _ h
theorem RowN.ext (h:RowN w g N F) {G:Nat→Int} (e:∀j,j<N→F j=G j):RowN w g N G:=by
 unfold RowN;rw [←zwc e];exact h
theorem RowN.set (h:RowN w g N F) (x:Nat) (v:Int):RowN (w.setCell ⟨g,x,none⟩ (.int .i64 v)) g N (fun j=>if j=x then v else F j):=by
 have e:=heap_setCell_same w g x _ _ (.int .i64 v) h;rw [List.setIfInBounds_toArray,zwd] at e;exact e
theorem zgn (N:Nat) (h1:N≤65536) (w:World):
  (Instr.makeSlice 77 (.int .i64 (N:Int)) (.int .i64 (N:Int))).run Tryz.prog w=.ok (.slice (some ⟨w.heap.size,0,none⟩) N N) (w.alloc (.cells (rowN (fun _=>0) N).toArray 3)):=by
 have hb:Tryz.t3.bytes=8:=rfl;rw [Go.run_make w 77 3 Tryz.t3 (.int .i64 0) Tryz.underlying77 (by kernel_rfl) rfl .i64 .i64 N N (by omega) (by omega) (by rw [hb];omega) (by omega)];have e1:madeCells (Value.cells (.int .i64 0)) (N*Tryz.t3.size)=(rowN (fun _=>0) N).toArray:=by
  rw [show Tryz.t3.size=1 from rfl,Nat.mul_one];apply Array.toList_inj.1;show (madeCells #[.int .i64 0] N).toList=_;rw [toList_madeCells_one];apply List.ext_getElem?;intro j
  by_cases k:j<N
  ·rw [zku _ _ _ k];simp [k]
  ·rw [List.getElem?_eq_none (by simp;omega),List.getElem?_eq_none (by rw [zcz];omega)]
 simp only [Int.toNat_natCast,e1]
theorem zmH {h:Nat} {c d:Array Value} {t s:TypeId} {p q:Nat×Nat} (h1:w.heap[g]? = some (.cells c t p)) (h2:w.heap[h]? = some (.cells d s q)) (n:t≠s):g≠h:=by
 intro e;subst e;have k:=h1.symm.trans h2;simp at k;exact n k.2.1
def IntsAt (w:World) (a:Option Addr) (n:Nat) (F:Nat→Int):Prop:=∀j,j<n→∃b off,a=some ⟨b,off,none⟩∧b<w.heap.size∧w.cell? ⟨b,off+j,none⟩=some (.int .i64 (F j))
def FlagsAt (w:World) (a:Option Addr) (n:Nat) (F:Nat→Bool):Prop:=∀j,j<n→∃b off,a=some ⟨b,off,none⟩∧b<w.heap.size∧w.cell? ⟨b,off+j,none⟩=some (.bool (F j))
theorem IntsAt.next {n:Nat} (h:IntsAt w a n F) (k:Below w.heap.size w w'):IntsAt w' a n F:=fun j hj=>by
 obtain ⟨b,off,e,hb,c⟩:=h j hj;exact ⟨b,off,e,Nat.lt_of_lt_of_le hb k.size,(k.cell (p:=⟨b,off+j,none⟩) hb).trans c⟩
theorem FlagsAt.next {n:Nat} {F:Nat→Bool} (h:FlagsAt w a n F) (k:Below w.heap.size w w'):FlagsAt w' a n F:=fun j hj=>by
 obtain ⟨b,off,e,hb,c⟩:=h j hj;exact ⟨b,off,e,Nat.lt_of_lt_of_le hb k.size,(k.cell (p:=⟨b,off+j,none⟩) hb).trans c⟩
theorem zmI (w:World) (a:Option Addr) (F:Nat→Int):IntsAt w a 0 F:=fun j hj=>absurd hj (Nat.not_lt_zero _)
theorem zlL (w:World) (a:Option Addr) (F:Nat→Bool):FlagsAt w a 0 F:=fun j hj=>absurd hj (Nat.not_lt_zero _)
theorem RowN.ints (h:RowN w g N F):IntsAt w (some ⟨g,0,none⟩) N F:=fun j hj=>⟨g,0,rfl,h.lt,by rw [Nat.zero_add];exact h.at j hj⟩
theorem zti {z:Int} (h:(Lit.int .i64 z).wf=true) : -9223372036854775808≤z∧z≤9223372036854775807:=by
 simp [Lit.wf] at h;have:(IntKind.i64.min:Int) = -9223372036854775808:=by decide
 have:(IntKind.i64.max:Int)=9223372036854775807:=by decide
 omega
theorem IsRow.wf {len cap:Nat} (h:IsRow .i64 w a len cap zs) (j:Nat) (hj:j<len) : -9223372036854775808≤zs.getD j 0∧zs.getD j 0≤9223372036854775807:=by
 obtain ⟨b,off,e,hb,_,_,hc⟩:=IsRow.cells h (by omega);exact zti (hc j hj).2
theorem IsRow.max {k:IntKind} {len cap:Nat}  (h:IsRow k w a len cap zs):len≤cap∧cap≤maxLen:=by
 rcases h with ⟨_,rfl,rfl,_⟩|⟨x,_,h1,h2,_⟩
 ·exact ⟨Nat.le_refl _,Nat.zero_le _⟩
 ·exact ⟨h1,h2⟩
end Go.Proofs.YtdiidjehdginnaaGreatDoor
namespace Go.Proofs.YtdiidjehdginnaaGreatDoor.L25
set_option maxHeartbeats 4000000
set_option maxRecDepth 20000
open A2 B4 C3 G6 I11 J23 K9 L24 M5 N8 O7 P22 R15 T10 V12 W13
open Go.RowKit
set_option linter.unusedVariables false
variable {a:Act} {ops:Array Oper} {Q:Exit→Act→World→Prop} {rest:List Oper} {nl q:Nat} {o:Oper} {w w':World}
def LinesO (w:World) (q:Nat) (vL:Value) (nl:Nat):Prop:=
 (nl=0∧vL=.slice none 0 0)∨(nl=1∧∃gl cap cur gc F,vL=.slice (some ⟨gl,0,none⟩) 1 cap∧w.heap[gl]? = some (.cells cur 77 (0,0))∧cur[0]? = some (.slice (some ⟨gc,0,none⟩) 8 8)∧RowN w gc 8 F∧q<gl∧q<gc)
def Told (w:World) (q nl ns:Nat):Prop:=
 ∃vL vS xs,w.heap[q]? = some (.cells #[vL,vS] 28 (0,0))∧w.ownsRow (q+1) 205 2 vS ns xs∧(∀u ∈ xs,∃z,u=Value.int .i64 z)∧LinesO w q vL nl
theorem zgo {base:Nat} {e:TypeId} {size:Nat} {v:Value} {n:Nat} {xs:List Value} (h:w.ownsRow base e size v n xs) (k:∀j,base≤j→j<w.heap.size→w'.heap[j]? = w.heap[j]?):w'.ownsRow base e size v n xs:=by
 obtain ⟨a,c|⟨g,cap,cur,r1,r2,r3,r4⟩⟩:=h
 ·exact ⟨a,.inl c⟩
 ·exact ⟨a,.inr ⟨g,cap,cur,r1,r2,(k g r2 (lt_of_block r3)).trans r3,r4⟩⟩
theorem LinesO.keep {vL:Value} (h:LinesO w q vL nl) (k:∀j,q<j→j<w.heap.size→(∃cs t fr,w.heap[j]? = some (.cells cs t fr)∧(t=77∨t=3))→w'.heap[j]? = w.heap[j]?):LinesO w' q vL nl:=by
 rcases h with h|⟨h,gl,cap,cur,gc,F,e1,e2,e3,e4,e5,e6⟩
 ·exact .inl h
 ·exact .inr ⟨h,gl,cap,cur,gc,F,e1,(k gl e5 (lt_of_block e2) ⟨_,_,_,e2,.inl rfl⟩).trans e2,e3,(k gc e6 e4.lt ⟨_,_,_,e4,.inr rfl⟩).trans e4,e5,e6⟩
theorem Told.keep {ns:Nat} (h:Told w q nl ns) (k:∀j,q≤j→j<w.heap.size→w'.heap[j]? = w.heap[j]?):Told w' q nl ns:=by
 obtain ⟨vL,vS,xs,h1,h2,h3,h4⟩:=h;exact ⟨vL,vS,xs,(k q (Nat.le_refl _) (lt_of_block h1)).trans h1,zgo h2 (fun j hj l=>k j (by omega) l),h3,h4.keep (fun j hj l _=>k j (by omega) l)⟩
theorem zkv:∃i,Tryz.prog.info? 205=some i∧i.zero=some (.agg #[.int .i64 0,.int .i64 0])∧i.size=2∧i.bytes=16:=info_parts (by kernel_rfl)
theorem ztk:∃i,Tryz.prog.info? 77=some i∧i.zero=some (.slice none 0 0)∧i.size=1∧i.bytes=24:=info_parts (by kernel_rfl)
theorem zgS (hg:o.guard=none) (s x:Operand)
  (ho:o.op=.call { callee:=.builtin .append,args:=#[s,x],argTypes:=#[26,26] }) (B g0 n:Nat) (v:Value) (xs:List Value) (y z:Int) (hs:a.eval s=v)
  (hx:a.eval x=.slice (some ⟨g0,0,none⟩) 1 1) (own:w.ownsRow B 205 2 v n xs) (h0:w.cell? ⟨g0,0,none⟩=some (.int .i64 y)) (h1:w.cell? ⟨g0,1,none⟩=some (.int .i64 z)) (hB:B≤w.heap.size) (hn:n≤1000000)
  (h:∀v' w',w'.ownsRow B 205 2 v' (n+1) (xs++[.int .i64 y,.int .i64 z])→w.grownBy w' v.ownBlock→wpList Tryz.prog ops Q rest (a.put o.dst v') w'):wpList Tryz.prog ops Q (o::rest) a w:=by
 obtain ⟨i0,hi,hz0,hz1,hz2⟩:=zkv;refine wpList_append_own _ hg s x 26 ho B 205 i0 _ 2 16 Tryz.underlying26 hi hz0 hz1 hz2 rfl (by decide) v n xs hs own ⟨g0,0,none⟩ 1 1 [.int .i64 y,.int .i64 z] hx rfl ?_ ?_ (by simp [maxLen];omega) (by omega) hB fun v' w' o6 g6 _=>h v' w' o6 g6
 ·intro j u hj;rcases j with _|_|j
  ·cases hj;exact h0
  ·cases hj;exact h1
  ·simp at hj
 ·intro u hu;simp at hu;rcases hu with rfl|rfl<;>rfl
theorem zgp (hg:o.guard=none) (s x:Operand)
  (ho:o.op=.call { callee:=.builtin .append,args:=#[s,x],argTypes:=#[25,25] }) (B g0:Nat) (y:Value) (hs:a.eval s=.slice none 0 0)
  (hx:a.eval x=.slice (some ⟨g0,0,none⟩) 1 1) (h0:w.cell? ⟨g0,0,none⟩=some y) (hy:y.oneCell'=true) (hB:B≤w.heap.size)
  (h:∀v' w',w'.ownsRow B 77 1 v' 1 [y]→w.grownBy w' none→wpList Tryz.prog ops Q rest (a.put o.dst v') w'):wpList Tryz.prog ops Q (o::rest) a w:=by
 obtain ⟨i0,hi,hz0,hz1,hz2⟩:=ztk;refine wpList_append_own _ hg s x 25 ho B 77 i0 _ 1 24 Tryz.underlying25 hi hz0 hz1 hz2 rfl (by decide) (.slice none 0 0) 0 [] hs (World.ownsRow_nil _ _ _ _) ⟨g0,0,none⟩ 1 1 [y] hx rfl ?_ ?_ (by simp [maxLen]) (by omega) hB fun v' w' o6 g6 _=>h v' w' o6 g6
 ·intro j u hj;rcases j with _|j
  ·cases hj;exact h0
  ·simp at hj
 ·intro u hu;simp at hu;subst hu;exact hy
theorem zwe {ns s:Nat} {F : Nat → Int} (h : Told w q nl ns) (hs : HasF 205 w s 2 (iv F)) (hn : ns ≤ 1000000) :
    Calls Tryz.prog 12 #[.slice (some ⟨s, 0, none⟩) 1 1, .pointer (some ⟨q, 0, none⟩)] w fun e w' => e = Ending.returned (.tuple #[]) ∧ Told w' q nl (ns + 1) ∧ Below q w w' := by
  obtain ⟨vL, vS, xs, h1, h2, h3, h4⟩ := h
  have c1 := (cell_of_row w q 1 _ _ _ h1).trans rfl
  have OW := hide h2
  have LQ := hide (lt_of_block h1)
  have s0 := hide (hs.at 0 (by decide))
  have s1 := hide (hs.at 1 (by decide))
  have HQ := hide h1
  have HL := hide h4
  have HX := hide h3
  have NB := hide (show some q ≠ vS.ownBlock ∧ ∀ k, vS.ownBlock = some k → q < k ∧ ∃ cs, w.heap[k]? = some (.cells cs 205 (0, 0)) from by
    obtain ⟨_, ⟨rfl, _⟩ | ⟨g, cap, cur, rfl, r2, r3, _⟩⟩ := h2
    · exact ⟨fun e => (by cases e), fun k e => (by cases e)⟩
    · refine ⟨fun e => ?_, fun k e => ?_⟩
      · obtain rfl : q = g := by simpa [Value.ownBlock] using e
        omega
      · obtain rfl : g = k := by simpa [Value.ownBlock] using e
        exact ⟨by omega, _, r3⟩)
  clear h1 h2 h3 h4 hs
  go_enter Tryz.func12, Tryz.ntmps12
  go_wp2_with (first
    | (at_builtin; refine zgS rfl (.tmp 4) (.tmp 5) rfl (q + 1) s ns vS _ (F 0) (F 1) rfl rfl OW.out s0.out s1.out LQ.out hn ?_; intro v6 w6 o6 g6
       have H6 := hide (show w6.heap[q]? = some (.cells #[vL, vS] 28 (0, 0)) from (g6.block q LQ.out NB.out.1).trans HQ.out)
       have O6 := hide o6
       have G6 := hide g6
       obtain ⟨k6, p6, ev⟩ : ∃ k6 p6, v6 = .slice (some ⟨k6, 0, none⟩) (ns + 1) p6 := (by
         obtain ⟨_, ⟨_, e⟩ | ⟨g, cap, cur, e, _⟩⟩ := o6
         · omega
         · exact ⟨g, cap, e⟩)
       subst ev
       have c6 := (cell_of_row w6 q 1 _ _ _ H6.out).trans rfl
       have f6 := frozen_of_row w6 q 1 _ _ H6.out
       clear o6 g6 c1 HQ))
  go_end0
  have e7 := heap_setCell_same w6 q 1 _ _ (.slice (some ⟨k6, 0, none⟩) (ns + 1) p6) H6.out
  have B6 : Below q w w6 := ⟨G6.out.os, G6.out.tape, G6.out.output, G6.out.size, fun j hj => G6.out.block j (by have := LQ.out; omega) fun e => by have := (NB.out.2 j e.symm).1; omega⟩
  refine ⟨rfl, ⟨vL, _, _, e7, ownsRow_setCell_other O6.out ?_ _, ?_, ?_⟩, B6.setCell (Nat.le_refl _) _⟩
  · intro e
    obtain ⟨_, ⟨e2, _⟩ | ⟨g, cap, cur, e2, r2, _⟩⟩ := O6.out
    · cases e2
    · have : k6 = q := by simpa [Value.ownBlock] using e
      cases e2
      omega
  · intro u hu
    rcases List.mem_append.1 hu with hu | hu
    · exact HX.out u hu
    · simp at hu
      rcases hu with rfl | rfl <;> exact ⟨_, rfl⟩
  · refine HL.out.keep fun j hj l ⟨cs, t, fr, hc, ht⟩ => ?_
    refine (heap_setCell_other w6 _ j _ (by show j ≠ q; omega)).trans (G6.out.block j l fun e => ?_)
    obtain ⟨_, ds, hd⟩ := NB.out.2 j e.symm
    rw [hd] at hc
    obtain ⟨_, e2, _⟩ := Obj.cells.inj (Option.some.inj hc)
    rcases ht with rfl | rfl
    · exact absurd e2 (by decide)
    · exact absurd e2 (by decide)
theorem zwf {ns gc:Nat} {F:Nat→Int} (h:Told w q 0 ns) (hr:RowN w gc 8 F) (hc:q<gc):
  Calls Tryz.prog 11 #[.slice (some ⟨gc,0,none⟩) 8 8,.pointer (some ⟨q,0,none⟩)] w fun e w'=>e=Ending.returned (.tuple #[])∧Told w' q 1 ns∧Below q w w':=by
 obtain ⟨vL,vS,xs,h1,h2,h3,h4⟩:=h;obtain ⟨_,rfl⟩|⟨e,_⟩:=h4
 ·have LQ:=hide (lt_of_block h1);have c0:=(cell_of_row w q 0 _ _ _ h1).trans rfl;have BA:=(Below.refl w.heap.size w).alloc (Nat.le_refl _) (.cells #[.slice (some ⟨gc,0,none⟩) 8 8] 77);have HN:=hide (show (w.alloc (.cells #[.slice (some ⟨gc,0,none⟩) 8 8] 77)).cell? ⟨w.heap.size,0,none⟩=some (.slice (some ⟨gc,0,none⟩) 8 8) by simp);have HQ:=hide (zbY h1 BA);have OW:=hide (zgo h2 fun j _ l=>BA.block j l);have HR:=hide (RowN.next hr BA);have HX:=hide h3;have SZ:=hide (show q+1≤(w.alloc (.cells #[.slice (some ⟨gc,0,none⟩) 8 8] 77)).heap.size by have:=LQ.out;simp;omega);have BB:=hide (show Below q w (w.alloc (.cells #[.slice (some ⟨gc,0,none⟩) 8 8] 77)) from BA.mono (by have:=LQ.out;omega));clear h1 h2 h3 hr BA;go_enter Tryz.func11,Tryz.ntmps11
  go_wp2_with (first
   |(at_builtin;refine zgp rfl (.tmp 4) (.tmp 6) rfl (q+1) w.heap.size (.slice (some ⟨gc,0,none⟩) 8 8) rfl rfl HN.out rfl SZ.out ?_;intro v6 w6 o6 g6
     have H6:=hide (show w6.heap[q]? = some (.cells #[.slice none 0 0,vS] 28 (0,0)) from (g6.block q (lt_of_block HQ.out) (fun e=>by cases e)).trans HQ.out);have G6:=hide g6;have O6:=hide o6
     obtain ⟨k6,p6,u6,ev,kq,ku,k0⟩:∃k6 p6 u6,v6=.slice (some ⟨k6,0,none⟩) 1 p6∧q<k6∧w6.heap[k6]? = some (.cells u6 77 (0,0))∧u6[0]? = some (.slice (some ⟨gc,0,none⟩) 8 8):=(by
      obtain ⟨_,⟨_,e⟩|⟨g,cap,cur,e,r2,r3,r4,r5,r6,r7⟩⟩:=o6
      ·cases e
      ·refine ⟨g,cap,cur,e,by omega,r3,?_⟩;have q0:(cur.toList.take (1*1))[0]? = some (.slice (some ⟨gc,0,none⟩) 8 8):=by rw [r7];rfl
       rw [List.getElem?_take,if_pos (by decide)] at q0
       simpa using q0)
     subst ev;have c6:=(cell_of_row w6 q 0 _ _ _ H6.out).trans rfl;have f6:=frozen_of_row w6 q 0 _ _ H6.out;have KU:=hide ku;have KQ:=hide kq;have K0:=hide k0
     clear o6 g6 c0 ku kq k0))
  go_end0;have e7:=heap_setCell_same w6 q 0 _ _ (.slice (some ⟨k6,0,none⟩) 1 p6) H6.out;have kp:∀j,q<j→j<w6.heap.size→(w6.setCell ⟨q,0,none⟩ (.slice (some ⟨k6,0,none⟩) 1 p6)).heap[j]? = w6.heap[j]? :=fun j hj _=>heap_setCell_other w6 _ j _ (by show j≠q;omega)
  have k6':∀j,j<(w.alloc (.cells #[.slice (some ⟨gc,0,none⟩) 8 8] 77)).heap.size→w6.heap[j]? = (w.alloc (.cells #[.slice (some ⟨gc,0,none⟩) 8 8] 77)).heap[j]? :=fun j hj=>G6.out.block j hj (fun e=>by cases e)
  have R6:RowN w6 gc 8 F:=(k6' gc HR.out.lt).trans HR.out;refine ⟨rfl,⟨_,vS,xs,e7,zgo (zgo OW.out fun j _ l=>k6' j l) (fun j hj l=>kp j (by omega) l),HX.out,.inr ⟨rfl,k6,p6,u6,gc,F,rfl,(kp k6 KQ.out (lt_of_block KU.out)).trans KU.out,K0.out,(kp gc hc R6.lt).trans R6,KQ.out,hc⟩⟩,?_⟩;have B6:Below q w w6:=BB.out.trans ⟨G6.out.os,G6.out.tape,G6.out.output,G6.out.size,fun j hj=>k6' j (by have:=lt_of_block HQ.out;omega)⟩;exact B6.setCell (Nat.le_refl _) _
 ·cases e
end Go.Proofs.YtdiidjehdginnaaGreatDoor.L25
namespace Go.Proofs.YtdiidjehdginnaaGreatDoor.N21
set_option maxHeartbeats 4000000
set_option maxRecDepth 20000
set_option linter.unusedVariables false
variable {a b s:Nat} {f:Nat→Nat} {w:World}
def oddN (s:Nat):Nat:=(s+s/2+s/2/1024+s/2/2048+s/2/65536)%2
def zbZ (s:Nat):Nat:=s/2+131072*oddN s
def zbQ (s:Nat):Nat→Nat
 |0=>s
 |n+1=>zbZ (zbQ s n)
def stOf (s:Int):Nat:=if s%262144=0 then 1 else (s%262144).toNat
theorem ztl (s:Int):0<stOf s∧stOf s<262144:=by unfold stOf;split<;>omega
theorem ziy (h0:0<s) (h1:s<262144):stOf (s:Int)=s:=by unfold stOf;split<;>omega
theorem ziz (s:Nat):oddN s<2:=Nat.mod_lt _ (by decide)
theorem znU (h:s<262144):zbZ s<262144:=by
 have:=ziz s;unfold zbZ;omega
theorem ztm (h0:0<s) (h:s<262144):0<zbZ s:=by
 unfold zbZ
 by_cases e:s=1
 ·subst e;decide
 ·omega
theorem zhG (h0:0<s) (h:s<262144):∀n,0<zbQ s n∧zbQ s n<262144
 |0=>⟨h0,h⟩
 |n+1=>⟨ztm (zhG h0 h n).1 (zhG h0 h n).2,znU (zhG h0 h n).2⟩
theorem zgq (h:s<262144):∀n,zbQ s n<262144
 |0=>h
 |n+1=>znU (zgq h n)
theorem ziA (s a:Nat):∀b,zbQ s (a+b)=zbQ (zbQ s a) b
 |0=>rfl
 |b+1=>by
  show zbZ (zbQ s (a+b))=zbZ (zbQ (zbQ s a) b);rw [ziA s a b]
theorem zej (a b:Nat):(a ^^^ b)%2=(a+b)%2:=by
 have h:=Nat.xor_mod_two_eq_one (a:=a) (b:=b);omega
theorem znV (a b:Nat):(a ^^^ b)/2=a/2 ^^^ b/2:=by
 have h:=Nat.xor_div_two_pow (a:=a) (b:=b) (n:=1)
 simpa using h
theorem zgr (a b k:Nat):(a ^^^ b)/2 ^ k=a/2 ^ k ^^^ b/2 ^ k:=Nat.xor_div_two_pow
theorem znW (a b k:Nat):(a ^^^ b)%2 ^ k=a%2 ^ k ^^^ b%2 ^ k:=Nat.xor_mod_two_pow
theorem znX (k:Nat) (h1:a/2 ^ k=b/2 ^ k) (h2:a%2 ^ k=b%2 ^ k):a=b:=by
 rw [←Nat.div_add_mod a (2 ^ k),←Nat.div_add_mod b (2 ^ k),h1,h2]
theorem zlM (ha:a<262144) (hb:b<262144):a ^^^ b<262144:=Nat.xor_lt_two_pow (n:=18) ha hb
theorem zwg {x k:Nat} (h:x<2 ^ k):x ^^^ 2 ^ k=x+2 ^ k:=by
 have hp:0<2 ^ k:=Nat.two_pow_pos k;apply znX k
 ·rw [zgr,Nat.div_eq_of_lt h,Nat.div_self hp,Nat.add_div_right _ hp,Nat.div_eq_of_lt h];rfl
 ·rw [znW,Nat.mod_self,Nat.add_mod_right,Nat.xor_zero]
theorem zwh (a b:Nat):oddN (a ^^^ b)=(oddN a+oddN b)%2:=by
 unfold oddN;have e0:=zej a b;have e1:=zej (a/2) (b/2);have e2:=zej (a/2/1024) (b/2/1024);have e3:=zej (a/2/2048) (b/2/2048);have e4:=zej (a/2/65536) (b/2/65536);rw [znV,show (a/2 ^^^ b/2)/1024=a/2/1024 ^^^ b/2/1024 from zgr _ _ 10,show (a/2 ^^^ b/2)/2048=a/2/2048 ^^^ b/2/2048 from zgr _ _ 11,show (a/2 ^^^ b/2)/65536=a/2/65536 ^^^ b/2/65536 from zgr _ _ 16];generalize a ^^^ b=x0 at *;generalize a/2/1024 ^^^ b/2/1024=x2 at *;generalize a/2/2048 ^^^ b/2/2048=x3 at *;generalize a/2/65536 ^^^ b/2/65536=x4 at *;generalize a/2 ^^^ b/2=x1 at *;generalize a/2/1024=a2 at *;generalize a/2/2048=a3 at *;generalize a/2/65536=a4 at *;generalize a/2=a1 at *;generalize b/2/1024=b2 at *;generalize b/2/2048=b3 at *;generalize b/2/65536=b4 at *;generalize b/2=b1 at *;omega
theorem ztn (ha:a<262144) (hb:b<262144):zbZ (a ^^^ b)=zbZ a ^^^ zbZ b:=by
 have h1:=ziz a;have h2:=ziz b;have hx:=zlM ha hb;have ho:=zwh a b;apply znX 17
 ·rw [zgr];have e0:zbZ (a ^^^ b)/2 ^ 17=oddN (a ^^^ b):=by unfold zbZ;omega
  have e1:zbZ a/2 ^ 17=oddN a:=by unfold zbZ;omega
  have e2:zbZ b/2 ^ 17=oddN b:=by unfold zbZ;omega
  rw [e0,e1,e2,ho];generalize oddN a=p at *;generalize oddN b=q at *;have hp:p=0∨p=1:=by omega
  have hq:q=0∨q=1:=by omega
  rcases hp with rfl|rfl<;>rcases hq with rfl|rfl<;>rfl
 ·rw [znW];have e0:zbZ (a ^^^ b)%2 ^ 17=(a ^^^ b)/2:=by unfold zbZ;omega
  have e1:zbZ a%2 ^ 17=a/2:=by unfold zbZ;omega
  have e2:zbZ b%2 ^ 17=b/2:=by unfold zbZ;omega
  rw [e0,e1,e2,znV]
theorem zlN (ha:a<262144) (hb:b<262144):∀n,zbQ (a ^^^ b) n=zbQ a n ^^^ zbQ b n
 |0=>rfl
 |n+1=>by
  show zbZ (zbQ (a ^^^ b) n)=zbZ (zbQ a n) ^^^ zbZ (zbQ b n);rw [zlN ha hb n,ztn (zgq ha n) (zgq hb n)]
theorem zjt:∀n,zbQ 0 n=0
 |0=>rfl
 |n+1=>by
  show zbZ (zbQ 0 n)=0;rw [zjt n];rfl
def zdm (f:Nat→Nat) (s:Nat):Nat→Nat
 |0=>0
 |k+1=>zdm f s k ^^^ f k*(s/2 ^ k%2)
theorem zlO (hf:∀i,i<18→f i<262144) (s:Nat):∀k,k≤18→zdm f s k<262144
 |0,_=>by show 0<262144;decide
 |k+1,h=>by
  have h1:=hf k (by omega);have h2:s/2 ^ k%2=0∨s/2 ^ k%2=1:=by omega
  refine zlM (zlO hf s k (by omega)) ?_;rcases h2 with e|e<;>rw [e]<;>omega
theorem zto (m:Nat) (hf:∀i,i<18→f i=zbQ (2 ^ i) m) (s:Nat):∀k,k≤18→zdm f s k=zbQ (s%2 ^ k) m
 |0,_=>by
  rw [Nat.pow_zero,Nat.mod_one,zjt];rfl
 |k+1,h=>by
  have hlt:s%2 ^ k<2 ^ k:=Nat.mod_lt _ (Nat.two_pow_pos k);have hp:2 ^ k≤2 ^ 17:=Nat.pow_le_pow_right (by decide) (by omega);show zdm f s k ^^^ f k*(s/2 ^ k%2)=_;rw [zto m hf s k (by omega),hf k (by omega),Nat.mod_pow_succ];have h2:s/2 ^ k%2=0∨s/2 ^ k%2=1:=by omega
  rcases h2 with e|e
  ·rw [e,Nat.mul_zero,Nat.mul_zero,Nat.xor_zero,Nat.add_zero]
  ·rw [e,Nat.mul_one,Nat.mul_one,←zwg hlt,zlN (by omega) (by omega)]
theorem znY (m:Nat) (hf:∀i,i<18→f i=zbQ (2 ^ i) m) (h:s<262144):zdm f s 18=zbQ s m:=by
 rw [zto m hf s 18 (Nat.le_refl _),Nat.mod_eq_of_lt h]
theorem xor_nat (a b:Nat) (ha:a<2 ^ 62) (hb:b<2 ^ 62):bits .xor .i64 (a:Int) (b:Int)=((a ^^^ b:Nat):Int):=by
 have ha':a%2 ^ 64=a:=Nat.mod_eq_of_lt (by omega);have hb':b%2 ^ 64=b:=Nat.mod_eq_of_lt (by omega);have h:a ^^^ b<2 ^ 62:=Nat.xor_lt_two_pow ha hb;show IntKind.i64.wrap ((BitVec.ofInt 64 (a:Int) ^^^ BitVec.ofInt 64 (b:Int)).toNat:Nat)=_;rw [BitVec.ofInt_natCast,BitVec.ofInt_natCast,BitVec.toNat_xor,BitVec.toNat_ofNat,BitVec.toNat_ofNat,ha',hb'];exact zbE _ (by omega) (by omega)
theorem ziB (a b:Nat) (ha:a<262144) (hb:b<262144):bits .xor .i64 (a:Int) (b:Int)=((a ^^^ b:Nat):Int):=xor_nat a b (by omega) (by omega)
def oddX (x:Int):Int:=bits .and .i64 (bits .xor .i64 (bits .xor .i64 (bits .xor .i64 (bits .xor .i64 x (x/2)) (x/2048)) (x/4096)) (x/131072)) 1
theorem ztp (s:Nat) (h:s<262144):oddX (s:Int)=(oddN s:Nat):=by
 unfold oddX;have e1:(s:Int)/2=((s/2:Nat):Int):=by omega
 have e2:(s:Int)/2048=((s/2/1024:Nat):Int):=by omega
 have e3:(s:Int)/4096=((s/2/2048:Nat):Int):=by omega
 have e4:(s:Int)/131072=((s/2/65536:Nat):Int):=by omega
 rw [e1,e2,e3,e4];have l1:s/2<262144:=by omega
 have l2:s/2/1024<262144:=by omega
 have l3:s/2/2048<262144:=by omega
 have l4:s/2/65536<262144:=by omega
 have x1:=zlM h l1;have x2:=zlM x1 l2;have x3:=zlM x2 l3;rw [ziB _ _ h l1,ziB _ _ x1 l2,ziB _ _ x2 l3,ziB _ _ x3 l4,zho];unfold oddN;have y1:=zej s (s/2);have y2:=zej (s ^^^ s/2) (s/2/1024);have y3:=zej (s ^^^ s/2 ^^^ s/2/1024) (s/2/2048);have y4:=zej (s ^^^ s/2 ^^^ s/2/1024 ^^^ s/2/2048) (s/2/65536);generalize s ^^^ s/2 ^^^ s/2/1024 ^^^ s/2/2048 ^^^ s/2/65536=q4 at *;generalize s ^^^ s/2 ^^^ s/2/1024 ^^^ s/2/2048=q3 at *;generalize s ^^^ s/2 ^^^ s/2/1024=q2 at *;generalize s ^^^ s/2=q1 at *;generalize s/2/1024=a2 at *;generalize s/2/2048=a3 at *;generalize s/2/65536=a4 at *;generalize s/2=a1 at *;omega
theorem zzv (s:Nat) (h:s<262144):0≤oddX (s:Int)∧oddX (s:Int)<2:=by
 rw [ztp s h];have:=ziz s;omega
theorem stepX (s:Nat) (h:s<262144):bits .or .i64 ((s:Int)/2) (oddX (s:Int)*131072)=(zbZ s:Nat):=by
 rw [ztp s h];have h2:=ziz s;have e:zbZ s=s/2+131072*oddN s:=rfl;rw [e];generalize oddN s=p at *;rw [or_comm,zha 17 _ _ (by omega) (by omega) (by omega) (by omega) (by omega) (by omega)];omega
open Go.RowKit
def zxl:List Int:=[1024,862,725,610,513,432,363,306,257,216,182,153,129,108,91,77,65,54,46,38,32,27,23,19,16,14,11,10,8,7,6,0]
def zeJ (k:Nat):Int:=zxl[k]?.getD 0
def clip (n:Int):Nat:=if n<0 then 0 else if 31<n then 31 else n.toNat
def zdH (n:Int):Int:=zeJ (clip n)
def zft (v b m:Int):Int:=zdH (31-v%32+2*(15-b%16)+2*(15-m%16))
theorem zzw (n:Int):clip n<32:=by unfold clip;(repeat' split)<;>omega
theorem zpX:∀a:Fin 32,0≤zeJ a.val∧zeJ a.val≤1024:=by decide +kernel
theorem zwi (n:Int):0≤zdH n∧zdH n≤1024:=zpX ⟨_,zzw n⟩
def zgT:Array Value:=(zxl.map (Value.int .i64)).toArray
def HasLevels (w:World):Prop:=∃t fr,w.heap[9]? = some (.cells zgT t fr)
theorem HasLevels.pos (h:HasLevels w):9<w.heap.size:=by
 obtain ⟨t,fr,e⟩:=h;exact lt_of_block e
theorem HasLevels.next {w':World} (h:HasLevels w) (b:Below w.heap.size w w'):HasLevels w':=by
 have k:=h.pos;obtain ⟨t,fr,e⟩:=h;exact ⟨t,fr,(b.block 9 k).trans e⟩
theorem zpY:∀k:Fin 32,zxl[k.val]? = some (zeJ k.val):=by decide +kernel
theorem HasLevels.at (h:HasLevels w) (k:Nat) (hk:k<32):w.cell? ⟨9,k,none⟩=some (.int .i64 (zeJ k)):=by
 obtain ⟨t,fr,e⟩:=h;rw [cell_of_row w 9 k _ _ _ e];have:=zpY ⟨k,hk⟩;simp only at this;simp [zgT,this]
theorem and_31 (n:Int):bits .and .i64 n 31=n%32:=zbt 5 (by decide) n
theorem ztq (n:Int) (w:World) (hL:HasLevels w):Calls Tryz.prog 251 #[.int .i64 n] w fun e w'=>e=.returned (.int .i64 (zdH n))∧w'=w:=by
 by_cases h0:n≤0
 ·have c:=hL.at 0 (by decide);have e:zdH n=zeJ 0:=by unfold zdH clip;(repeat' split)<;>first|rfl|omega|(congr 1;omega)
  rw [e];clear e;go_enter Tryz.func251,Tryz.ntmps251;go_wp2
  all_goals (go_ret;exact ⟨rfl,rfl⟩)
 ·by_cases h1:31<n
  ·have c:=hL.at 31 (by decide);have e:zdH n=zeJ 31:=by unfold zdH clip;(repeat' split)<;>first|rfl|omega|(congr 1;omega)
   rw [e];clear e;go_enter Tryz.func251,Tryz.ntmps251;go_wp2
   all_goals (go_ret;exact ⟨rfl,rfl⟩)
  ·have c:=hL.at n.toNat (by omega);have e:zdH n=zeJ n.toNat:=by unfold zdH clip;(repeat' split)<;>first|rfl|omega|(congr 1;omega)
   rw [e];clear e;go_enter Tryz.func251,Tryz.ntmps251;go_wp2
   all_goals (go_ret;exact ⟨rfl,rfl⟩)
theorem zwj (v b m:Int) (w:World) (hL:HasLevels w):Calls Tryz.prog 219 #[.int .i64 v,.int .i64 b,.int .i64 m] w fun e w'=>e=.returned (.int .i64 (zft v b m))∧w'=w:=by
 have e1:=and_31 v;have e2:=zcX b;have e3:=zcX m;have v0:0≤v%32∧v%32<32:=by omega
 have b0:0≤b%16∧b%16<16:=by omega
 have m0:0≤m%16∧m%16<16:=by omega
 obtain ⟨x,hx⟩:∃x,x=zft v b m:=⟨_,rfl⟩
 rw [←hx];unfold zft at hx;generalize v%32=V at *;generalize b%16=B at *;generalize m%16=M at *;have HX:=hide hx;have HL:=hide hL;clear hx hL;go_enter Tryz.func219,Tryz.ntmps219;go_wp2_with (go_at_call 251;refine (ztq _ _ HL.out).mono ?_;rintro e w' ⟨rfl,rfl⟩);go_ret;exact ⟨zat HX.out.symm,rfl⟩
theorem zek (s:Int) (w:World):Calls Tryz.prog 252 #[.int .i64 s] w fun e w'=>e=.returned (.int .i64 (stOf s:Nat))∧w'=w:=by
 have e:=zor s
 by_cases h:s%262144=0
 ·have HQ:Hid (((stOf s:Nat):Int)=1):=by unfold stOf;rw [if_pos h];rfl
  rw [h] at e;clear h;go_enter Tryz.func252,Tryz.ntmps252;go_wp2;go_ret;exact ⟨zat HQ.out.symm,rfl⟩
 ·have HQ:Hid (((stOf s:Nat):Int)=s%262144):=by unfold stOf;rw [if_neg h];show ((s%262144).toNat:Int)=s%262144;omega
  generalize s%262144=z at *;go_enter Tryz.func252,Tryz.ntmps252;go_wp2;go_ret;exact ⟨zat HQ.out.symm,rfl⟩
def zhr (b:Int):Int:=if b%32=31 then 64 else 128*(31-b%32)
theorem zpZ (b:Int) (w:World):Calls Tryz.prog 218 #[.int .i64 b] w fun e w'=>e=.returned (.int .i64 (zhr b))∧w'=w:=by
 have e:=and_31 b;have h0:0≤b%32∧b%32<32:=by omega
 by_cases h:b%32=31
 ·have HQ:Hid (zhr b=64):=hide (by unfold zhr;rw [if_pos h]);rw [h] at e;clear h;go_enter Tryz.func218,Tryz.ntmps218;go_wp2;go_ret;exact ⟨zat HQ.out.symm,rfl⟩
 ·have HQ:Hid (zhr b=128*(31-b%32)):=hide (by unfold zhr;rw [if_neg h]);generalize b%32=z at *;go_enter Tryz.func218,Tryz.ntmps218;go_wp2;go_ret;exact ⟨zat HQ.out.symm,rfl⟩
theorem zzx (s:Int) (w:World):Calls Tryz.prog 223 #[.int .i64 s] w fun e w'=>e=.returned (.int .i64 (31*((stOf s:Nat)%2:Int)))∧w'=w:=by
 have h1:=zho ((stOf s:Nat):Int);have h2:0≤((stOf s:Nat):Int)%2∧((stOf s:Nat):Int)%2<2:=by omega
 go_enter Tryz.func223,Tryz.ntmps223;go_wp2_with (go_at_call 252;refine (zek _ _).mono ?_;rintro e w' ⟨rfl,rfl⟩);go_ret;exact ⟨rfl,rfl⟩
theorem zwk (s:Int) (w:World):Calls Tryz.prog 270 #[.int .i64 s] w fun e w'=>e=.returned (.int .i64 (zbZ (stOf s):Nat))∧w'=w:=by
 obtain ⟨h0,h1⟩:=ztl s;have HS:=hide (stepX (stOf s) h1);have hO:=zzv (stOf s) h1;have K:=fun w=>zek s w
 obtain ⟨x,hx⟩:∃x,x=stOf s:=⟨_,rfl⟩
 rw [←hx] at h0 h1 HS K hO ⊢;clear hx;have hs:((x:Nat):Int)<262144:=by omega
 unfold oddX at hO HS;go_enter Tryz.func270,Tryz.ntmps270;go_wp2_with (go_at_call 252;refine (K _).mono ?_;rintro e w' ⟨rfl,rfl⟩);go_ret;exact ⟨zat HS.out,rfl⟩
end Go.Proofs.YtdiidjehdginnaaGreatDoor.N21
namespace Go.Proofs.YtdiidjehdginnaaGreatDoor.P22
set_option maxHeartbeats 4000000
set_option maxRecDepth 20000
open N21
open Go.RowKit
set_option linter.unusedVariables false
variable {k:Nat} {f g:Nat→Int}
theorem zdq (f:Nat→Int) (k m:Nat) (v:Int) (k' j:Nat) (hm:m<40) (hj:j<40):ch (up f (4+k*40+m) v) k' j=if k'=k∧j=m then v else ch f k' j:=by
 unfold ch up
 by_cases h:k'=k∧j=m
 ·rw [if_pos h,if_pos (by omega)]
 ·rw [if_neg h,if_neg (by omega)]
theorem ziC (f:Nat→Int) (k m:Nat) (v:Int) (i:Nat) (hi:i<4):up f (4+k*40+m) v i=f i:=zbC _ _ _ _ (by omega)
def zbS (f:Nat→Int):Int:=if 128≤f 3 then 0 else f 3%4
def nyOf (f:Nat→Int) (k:Nat):Bool:=decide (4≤k)&&decide (128≤ch f k 3)
def drOf (f:Nat→Int) (k:Nat):Bool:=decide (ch f k 1/64%2=1)
def soOf (f:Nat→Int) (k:Nat):Bool:=decide (128≤ch f k 1)
def goOf (f:Nat→Int) (k:Nat):Bool:=soOf f k&&!drOf f k
def heOf (f:Nat→Int) (k:Nat):Bool:=soOf f k&&!(decide (k=1)&&decide (zbS f≠0))
def orL (n l:Int):Int:=if n=0 then l else n
def frq (f:Nat→Int):Int:=(ch f 0 0+(ch f 1 (4+(ch f 1 36).toNat)-16)*4 ^ (zbS f-1).toNat)%4096
def perK (f:Nat→Int) (k:Nat):Int:=
 if nyOf f k=true then 6*zhr (ch f k 3) else if k=0∧zbS f≠0 then 6*orL (frq f) 4096 else if k=1∧zbS f≠0 then 6*orL (ch f 1 0) 4096*orL (f 2) 256 else 6*orL (ch f k 0) 4096
def onP (f:Nat→Int) (k:Nat) (p:Int):Nat→Int:=
 if goOf f k=true then
  if nyOf f k=true then up (up f (4+k*40+37) ((ch f k 37+455)%p)) (4+k*40+38) ((zbQ (ch f k 38).toNat ((ch f k 37+455)/p).toNat:Nat):Int)
  else up (up f (4+k*40+37) ((ch f k 37+455)%p)) (4+k*40+36) ((ch f k 36+(ch f k 37+455)/p)%32)
 else f
def onK (f:Nat→Int) (k:Nat):Nat→Int:=onP f k (perK f k)
def zfD (f:Nat→Int):Nat→Int:=onK (onK (onK (onK (onK (onK f 1) 0) 2) 3) 4) 5
def itF (f:Nat→Int):Nat→Nat→Int
 |0=>f
 |n+1=>zfD (itF f n)
theorem zzy (f:Nat→Int) (a:Nat):∀b,itF f (a+b)=itF (itF f a) b
 |0=>rfl
 |b+1=>by
  show zfD (itF f (a+b))=zfD (itF (itF f a) b);rw [zzy f a b]
def valK (f:Nat→Int) (k:Nat):Int:=if drOf f k=true then ch f k 39 else if nyOf f k=true then 31*(ch f k 38%2) else ch f k (4+(ch f k 36).toNat)
def glOf (f:Nat→Int) (k:Nat):Int:=zft (ch f k 1) (ch f k 2/16) (f 1/16)
def grOf (f:Nat→Int) (k:Nat):Int:=zft (ch f k 1) (ch f k 2%16) (f 1%16)
def zcs (g:Nat→Int):Nat→Int
 |0=>0
 |n+1=>zcs g n+g n
def zfj (f:Nat→Int) (k:Nat):Int:=if heOf f k=true then (valK f k-16)*glOf f k else 0
def zcR (f:Nat→Int) (k:Nat):Int:=if heOf f k=true then (valK f k-16)*grOf f k else 0
def zju (f:Nat→Int):Int:=zcs (zfj f) 6
def zgU (f:Nat→Int):Int:=zcs (zcR f) 6
def Alike (f g:Nat→Int):Prop:=(∀i,i<4→g i=f i)∧∀k j,j<40→j≠36→j≠37→j≠38→ch g k j=ch f k j
theorem Alike.refl (f:Nat→Int):Alike f f:=⟨fun _ _=>rfl,fun _ _ _ _ _ _=>rfl⟩
theorem Alike.trans {h:Nat→Int} (a:Alike f g) (b:Alike g h):Alike f h:=⟨fun i hi=>(b.1 i hi).trans (a.1 i hi),fun k j h0 h1 h2 h3=>(b.2 k j h0 h1 h2 h3).trans (a.2 k j h0 h1 h2 h3)⟩
theorem zdB (f:Nat→Int) (k m:Nat) (v:Int) (hm:m=36∨m=37∨m=38):Alike f (up f (4+k*40+m) v):=
 ⟨fun i hi=>ziC f k m v i hi,fun k' j h0 h1 h2 h3=>by rw [zdq _ _ _ _ _ _ (by omega) h0,if_neg (by omega)]⟩
theorem zdC (f:Nat→Int) (k:Nat) (p:Int):Alike f (onP f k p):=by
 unfold onP;split
 ·split
  ·exact (zdB f k 37 _ (by simp)).trans (zdB _ k 38 _ (by simp))
  ·exact (zdB f k 37 _ (by simp)).trans (zdB _ k 36 _ (by simp))
 ·exact Alike.refl f
theorem Alike.lfo (h:Alike f g):zbS g=zbS f:=by unfold zbS;rw [h.1 3 (by decide)]
theorem Alike.ny (h:Alike f g) (k:Nat):nyOf g k=nyOf f k:=by unfold nyOf;rw [h.2 k 3 (by decide) (by decide) (by decide) (by decide)]
theorem Alike.dr (h:Alike f g) (k:Nat):drOf g k=drOf f k:=by unfold drOf;rw [h.2 k 1 (by decide) (by decide) (by decide) (by decide)]
theorem Alike.so (h:Alike f g) (k:Nat):soOf g k=soOf f k:=by unfold soOf;rw [h.2 k 1 (by decide) (by decide) (by decide) (by decide)]
theorem Alike.go (h:Alike f g) (k:Nat):goOf g k=goOf f k:=by unfold goOf;rw [h.dr,h.so]
theorem Alike.he (h:Alike f g) (k:Nat):heOf g k=heOf f k:=by unfold heOf;rw [h.so,h.lfo]
theorem Alike.gl (h:Alike f g) (k:Nat):glOf g k=glOf f k:=by unfold glOf;rw [h.1 1 (by decide),h.2 k 1 (by decide) (by decide) (by decide) (by decide),h.2 k 2 (by decide) (by decide) (by decide) (by decide)]
theorem Alike.gr (h:Alike f g) (k:Nat):grOf g k=grOf f k:=by unfold grOf;rw [h.1 1 (by decide),h.2 k 1 (by decide) (by decide) (by decide) (by decide),h.2 k 2 (by decide) (by decide) (by decide) (by decide)]
theorem Alike.per (h:Alike f g) (k:Nat) (hk:¬(k=0∧zbS f≠0)):perK g k=perK f k:=by
 unfold perK;rw [h.ny,h.lfo,if_neg hk,if_neg hk,h.1 2 (by decide),h.2 k 3 (by decide) (by decide) (by decide) (by decide),h.2 k 0 (by decide) (by decide) (by decide) (by decide),h.2 1 0 (by decide) (by decide) (by decide) (by decide)]
theorem zgV (f:Nat→Int):Alike f (zfD f):=
 ((((((zdC f 1 _).trans (zdC _ 0 _)).trans (zdC _ 2 _)).trans (zdC _ 3 _)).trans (zdC _ 4 _)).trans (zdC _ 5 _))
theorem zkw (f:Nat→Int):∀n,Alike f (itF f n)
 |0=>Alike.refl f
 |n+1=>(zkw f n).trans (zgV _)
theorem zkx (h:okP f):0≤zbS f∧zbS f≤3:=by
 have:=h.2.2.2.1;unfold zbS;split<;>omega
theorem znZ (b:Int):64≤zhr b∧zhr b≤3968:=by
 unfold zhr;split<;>omega
theorem zhj {n l:Int} (h:0≤n∧n<l):0<orL n l∧orL n l≤l:=by
 unfold orL;split<;>omega
theorem okP.chan (h:okP f) (hk:k<6):okC (ch f k):=h.2.2.2.2 k hk
theorem zky (h:okP f) (hk:k<6):0<perK f k∧perK f k≤6291456:=by
 have hc:=(h.chan hk).1;have h1:=(h.chan (k:=1) (by decide)).1;have a:=znZ (ch f k 3);have b:=zhj (n:=frq f) (l:=4096) (by unfold frq;omega);have c:=zhj (n:=ch f 1 0) (l:=4096) (by omega);have d:=zhj (n:=f 2) (l:=256) (by have:=h.2.2.1;omega);have e:=zhj (n:=ch f k 0) (l:=4096) (by omega);unfold perK;split
 ·omega
 ·split
  ·omega
  ·split
   ·generalize orL (ch f 1 0) 4096=x at *;generalize orL (f 2) 256=y at *;have q1:0<6*x*y:=Int.mul_pos (by omega) (by omega);have q2:6*x*y≤6*4096*256:=Int.mul_le_mul (by omega) (by omega) (by omega) (by omega);omega
   ·omega
theorem ztr (h:okP f) (k m:Nat) (v:Int) (hv:(m=36∧0≤v∧v≤31)∨(m=37∧0≤v∧v≤16777215)∨(m=38∧1≤v∧v≤262143)):okP (up f (4+k*40+m) v):=by
 obtain ⟨h0,h1,h2,h3,h4⟩:=h;unfold okP;rw [ziC _ _ _ _ 0 (by decide),ziC _ _ _ _ 1 (by decide),ziC _ _ _ _ 2 (by decide),ziC _ _ _ _ 3 (by decide)];refine ⟨h0,h1,h2,h3,fun k' hk'=>?_⟩;obtain ⟨c0,c1,c2,c3,c4,c5,c6,c7,c8⟩:=h4 k' hk';have hm:m<40:=by omega
 unfold okC;rw [zdq _ _ _ _ _ _ hm (by decide),zdq _ _ _ _ _ _ hm (by decide),zdq _ _ _ _ _ _ hm (by decide),zdq _ _ _ _ _ _ hm (by decide),zdq _ _ _ _ _ _ hm (by decide),zdq _ _ _ _ _ _ hm (by decide),zdq _ _ _ _ _ _ hm (by decide),zdq _ _ _ _ _ _ hm (by decide)];refine ⟨?_,?_,?_,?_,?_,?_,?_,?_,fun i hi=>?_⟩
 ·rw [if_neg (by omega)];exact c0
 ·rw [if_neg (by omega)];exact c1
 ·rw [if_neg (by omega)];exact c2
 ·rw [if_neg (by omega)];exact c3
 ·split<;>omega
 ·split<;>omega
 ·split<;>omega
 ·rw [if_neg (by omega)];exact c7
 ·rw [zdq _ _ _ _ _ _ hm (by omega),if_neg (by omega)];exact c8 i hi
theorem zmJ {t p:Int} (h0:0≤t) (h1:t≤16777670) (hp:0<p):0≤t/p∧t/p≤16777670∧0≤t%p∧t%p<p:=by
 have a:=Int.ediv_nonneg h0 (Int.le_of_lt hp);have b:=Int.ediv_le_self p h0;have c:=Int.emod_nonneg t (Int.ne_of_gt hp);have d:=Int.emod_lt_of_pos t hp;omega
theorem zCt (h:okP f) (hk:k<6) {p:Int} (hp:0<p∧p≤6291456):okP (onP f k p):=by
 obtain ⟨c0,c1,c2,c3,c4,c5,c6,c7,c8⟩:=h.chan hk;have q:=zmJ (t:=ch f k 37+455) (p:=p) (by omega) (by omega) hp.1;unfold onP;split
 ·have k1:=ztr h k 37 ((ch f k 37+455)%p) (by omega);split
  ·refine ztr k1 k 38 _ (Or.inr (Or.inr ⟨rfl,?_⟩));have j:=zhG (s:=(ch f k 38).toNat) (by omega) (by omega) ((ch f k 37+455)/p).toNat;omega
  ·exact ztr k1 k 36 _ (by omega)
 ·exact h
theorem zeK (h:okP f) (hk:k<6):okP (onK f k):=zCt h hk (zky h hk)
theorem zwl (h:okP f):okP (zfD f):=zeK (zeK (zeK (zeK (zeK (zeK h (by decide)) (by decide)) (by decide)) (by decide)) (by decide)) (by decide)
theorem zts (h:okP f):∀n,okP (itF f n)
 |0=>h
 |n+1=>zwl (zts h n)
theorem zmK (h:okP f) (hk:k<6):0≤valK f k∧valK f k≤31:=by
 obtain ⟨c0,c1,c2,c3,c4,c5,c6,c7,c8⟩:=h.chan hk;have w:=c8 (ch f k 36).toNat (by omega);unfold valK;split
 ·exact c7
 ·split
  ·omega
  ·exact w
theorem zkz (v b m:Int):0≤zft v b m∧zft v b m≤1024:=zwi _
theorem zkA {a g:Int} (h0 : -16≤a) (h1:a≤15) (g0:0≤g) (g1:g≤1024) : -16384≤a*g∧a*g≤16384:=by
 have p1:a*g≤15*g:=Int.mul_le_mul_of_nonneg_right h1 g0;have p2 : -16*g≤a*g:=Int.mul_le_mul_of_nonneg_right h0 g0;omega
theorem zwm (h:okP f) (hk:k<6) : -16384≤zfj f k∧zfj f k≤16384:=by
 have v:=zmK h hk;have g:=zkz (ch f k 1) (ch f k 2/16) (f 1/16);unfold zfj glOf;split
 ·exact zkA (by omega) (by omega) g.1 g.2
 ·omega
theorem ztt (h:okP f) (hk:k<6) : -16384≤zcR f k∧zcR f k≤16384:=by
 have v:=zmK h hk;have g:=zkz (ch f k 1) (ch f k 2%16) (f 1%16);unfold zcR grOf;split
 ·exact zkA (by omega) (by omega) g.1 g.2
 ·omega
theorem zkB :∀n,(∀k,k<n→-16384≤g k∧g k≤16384)→-16384*(n:Int)≤zcs g n∧zcs g n≤16384*(n:Int)
 |0,_=>by simp [zcs]
 |n+1,h=>by
  have a:=zkB n fun k hk=>h k (by omega)
  have b:=h n (by omega);simp only [zcs];omega
def vAt (f:Nat→Int) (A P:Nat→Int) (k j:Nat):Value:=
 if j=0 then .int .i64 (ch f k 37) else if j=1 then .int .i64 (P k) else if j<42 then .int .i64 (if j=39 then A k else ch f k (j-2)) else if j=42 then .bool (nyOf f k) else if j=43 then .bool (drOf f k)
 else if j=44 then .bool (goOf f k) else if j=45 then .bool (heOf f k) else if j=46 then .int .i64 (glOf f k) else .int .i64 (grOf f k)
def vrow (f:Nat→Int) (A P:Nat→Int):Nat→Value:=fun i=>vAt f A P (i/48) (i%48)
theorem zct (f:Nat→Int) (A P:Nat→Int) (k j:Nat) (hj:j<48):vrow f A P (k*48+j)=vAt f A P k j:=by
 unfold vrow;rw [show (k*48+j)/48=k by omega,show (k*48+j)%48=j by omega]
theorem zfc {c:Nat→Value} {A P:Nat→Int} (h:∀k j,k<6→j<48→c (k*48+j)=vAt f A P k j):∀i,i<288→c i=vrow f A P i:=fun i hi=>by
 have k:=h (i/48) (i%48) (by omega) (by omega);rw [show i/48*48+i%48=i by omega] at k;exact k
theorem zkC (f:Nat→Int) (A P:Nat→Int) (k j:Nat):(vAt f A P k j).oneCell'=true:=by
 unfold vAt
 (repeat' split)<;>rfl
theorem zgW (c:Nat→Value) (i:Nat) (v:Value) (k j k' j':Nat) (hi:i=k*48+j) (hj:j<48) (hj':j'<48):updC c i v (k'*48+j')=if k'=k∧j'=j then v else c (k'*48+j'):=by
 subst hi;unfold updC
 by_cases h:k'=k∧j'=j
 ·rw [if_pos h,if_pos (by omega)]
 ·rw [if_neg h,if_neg (by omega)]
theorem zjv (f:Nat→Int) (A P:Nat→Int) (k:Nat) (v:Int):∀i,i<288→updC (vrow f A P) (k*48) (.int .i64 v) i=vrow (up f (4+k*40+37) v) A P i:=zfc fun k' j hk hj=>by
 have al:=zdB f k 37 v (by simp);rw [zgW _ _ _ k 0 k' j (by omega) (by decide) hj,zct _ _ _ _ _ hj];unfold vAt;rw [al.ny,al.dr,al.go,al.he,al.gl,al.gr,zdq _ _ _ _ _ _ (by decide) (by decide)]
 by_cases h0:j=0
 ·subst h0
  by_cases e:k'=k
  ·simp [e]
  ·simp [e]
 ·rw [if_neg (by omega),if_neg h0,if_neg h0]
  by_cases h2:j<42
  ·by_cases h3:j=39
   ·simp [h3]
   ·rw [zdq _ _ _ _ _ _ (by decide) (by omega),if_neg (c:=k'=k∧j-2=37) (by omega)]
  ·rw [if_neg h2,if_neg h2]
theorem zqa (f:Nat→Int) (A P:Nat→Int) (k:Nat) (v:Int):∀i,i<288→updC (vrow f A P) (k*48+2+36) (.int .i64 v) i=vrow (up f (4+k*40+36) v) A P i:=zfc fun k' j hk hj=>by
 have al:=zdB f k 36 v (by simp);rw [zgW _ _ _ k 38 k' j (by omega) (by decide) hj,zct _ _ _ _ _ hj];unfold vAt;rw [al.ny,al.dr,al.go,al.he,al.gl,al.gr,zdq _ _ _ _ _ _ (by decide) (by decide),if_neg (c:=k'=k∧37=36) (by omega)]
 by_cases h0:j=38
 ·subst h0
  by_cases e:k'=k
  ·simp [e,zdq]
  ·simp [e,zdq]
 ·rw [if_neg (by omega)]
  by_cases h2:j<42∧2≤j
  ·rw [zdq _ _ _ _ _ _ (by decide) (by omega),if_neg (c:=k'=k∧j-2=36) (by omega)]
  ·by_cases h3:j<42
   ·have:j=0∨j=1:=by omega
    rcases this with rfl|rfl<;>rfl
   ·rw [if_neg h3,if_neg h3]
theorem ztu (f:Nat→Int) (A P:Nat→Int) (k:Nat) (v:Int):∀i,i<288→updC (vrow f A P) (k*48+2+38) (.int .i64 v) i=vrow (up f (4+k*40+38) v) A P i:=zfc fun k' j hk hj=>by
 have al:=zdB f k 38 v (by simp);rw [zgW _ _ _ k 40 k' j (by omega) (by decide) hj,zct _ _ _ _ _ hj];unfold vAt;rw [al.ny,al.dr,al.go,al.he,al.gl,al.gr,zdq _ _ _ _ _ _ (by decide) (by decide),if_neg (c:=k'=k∧37=38) (by omega)]
 by_cases h0:j=40
 ·subst h0
  by_cases e:k'=k
  ·simp [e,zdq]
  ·simp [e,zdq]
 ·rw [if_neg (by omega)]
  by_cases h2:j<42∧2≤j
  ·rw [zdq _ _ _ _ _ _ (by decide) (by omega),if_neg (c:=k'=k∧j-2=38) (by omega)]
  ·by_cases h3:j<42
   ·have:j=0∨j=1:=by omega
    rcases this with rfl|rfl<;>rfl
   ·rw [if_neg h3,if_neg h3]
def upN (P:Nat→Int) (k:Nat) (v:Int):Nat→Int:=fun j=>if j=k then v else P j
theorem zmL (f:Nat→Int) (A P:Nat→Int) (k:Nat) (v:Int):∀i,i<288→updC (vrow f A P) (k*48+1) (.int .i64 v) i=vrow f A (upN P k v) i:=zfc fun k' j hk hj=>by
 rw [zgW _ _ _ k 1 k' j (by omega) (by decide) hj,zct _ _ _ _ _ hj];unfold vAt upN
 by_cases h0:j=1
 ·subst h0
  by_cases e:k'=k
  ·simp [e]
  ·simp [e]
 ·rw [if_neg (by omega),if_neg (c:=j=1) h0,if_neg (c:=j=1) h0]
end Go.Proofs.YtdiidjehdginnaaGreatDoor.P22
