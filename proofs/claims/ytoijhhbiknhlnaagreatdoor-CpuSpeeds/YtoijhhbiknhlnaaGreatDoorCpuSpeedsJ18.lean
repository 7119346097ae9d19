/- Texts put together. -/
import Derived.Test.YtoijhhbiknhlnaaGreatDoorCpuSpeedsJ15
import Derived.Test.YtoijhhbiknhlnaaGreatDoorCpuSpeedsJ16
import Derived.Test.YtoijhhbiknhlnaaGreatDoorCpuSpeedsJ17
import Derived.Test.YtoijhhbiknhlnaaGreatDoorCpuSpeedsJ10
import Derived.Test.YtoijhhbiknhlnaaGreatDoorCpuSpeedsJ07
import Derived.Test.YtoijhhbiknhlnaaGreatDoorCpuSpeedsJ04
import Derived.Deep.CutRange
namespace Go.Proofs.YtoijhhbiknhlnaaGreatDoor.L24
set_option maxHeartbeats 1000000
set_option maxRecDepth 20000
open B4 C3 G6 I11 J23 M5 P22 R15 T10 V12 W13
open Go.RowKit
set_option linter.unusedVariables false
theorem zys (n m:Int) (m0:0≤m) (m1:m<2 ^ 62):0≤bits .and .i64 n m∧bits .and .i64 n m≤m:=by
 obtain ⟨m,rfl⟩:=Int.eq_ofNat_of_zero_le m0;have e:(BitVec.ofInt 64 n &&& BitVec.ofInt 64 (m:Int)).toNat≤m:=by
  rw [BitVec.toNat_and,BitVec.ofInt_natCast,BitVec.toNat_ofNat,Nat.mod_eq_of_lt (by omega:m<2 ^ 64)];exact Nat.and_le_right
 show 0≤IntKind.i64.wrap ((BitVec.ofInt 64 n &&& BitVec.ofInt 64 (m:Int)).toNat:Nat)∧IntKind.i64.wrap ((BitVec.ofInt 64 n &&& BitVec.ofInt 64 (m:Int)).toNat:Nat)≤m;generalize (BitVec.ofInt 64 n &&& BitVec.ofInt 64 (m:Int)).toNat=x at *;rw [zco _ (by omega) (by omega)];omega
def vF (c a:Int) (f:Nat→Int):Nat→Int:=fun j=>if j=0 then c else if j=1 then a else f (j-2)
theorem zeo (c a:Int) (f:Nat→Int):rowF (iv (vF c a f)) 514=V12.rowV c a f:=by
 apply Array.ext_getElem?;intro j
 by_cases h:j<514
 ·rw [zbP _ _ _ h];unfold iv vF;rcases j with _|_|j
  ·exact (V12.rowV_0 c a f).symm
  ·exact (V12.rowV_1 c a f).symm
  ·rw [if_neg (by omega),if_neg (by omega),show j+1+1=2+j by omega,V12.rowV_at c a f j (by omega),show 2+j-2=j by omega]
 ·rw [zed _ _ _ h,Array.getElem?_eq_none (by rw [V12.rowV_size];omega)]
theorem zyt (f:Nat→Int) (N:Nat):∀j,j<N→(iv f j).oneCell'=true:=fun _ _=>rfl
def pv (s c d:Bool) (i:Int):Nat→Value:=fun j=>if j=0 then .bool s else if j=1 then .bool c else if j=2 then .bool d else .int .i64 i
theorem ztX (s c d:Bool) (i:Int):rowF (pv s c d i) 4=#[.bool s,.bool c,.bool d,.int .i64 i]:=rfl
theorem zyu (s c d:Bool) (i:Int):∀j,j<4→(pv s c d i j).oneCell'=true:=fun j _=>by
 unfold pv;split
 ·rfl
 ·split
  ·rfl
  ·split<;>rfl
theorem zvg {w:World} {b v c d:Nat} {L:List (Nat×(Nat→Value))} {bs:List Int} {f:Nat→Int} {wr rd st lo bu:Int} (h:HasX w b v c d L bs f wr rd st lo bu) (p g a:Int) (hk:zaI p=4) (hg:zcJ p=g) (ha:atW p=a) {x:Int} (h16:L[16]? = some (1,fun _=>Value.int .i64 x)):Calls Tryz.prog 28 #[.pointer (some ⟨b,0,none⟩),.int .i64 p] w fun e w'=>e=Ending.returned (.int .i64 x)∧HasX w' b v c d L bs f wr rd st lo bu∧OnlyE (EX b v) w w':=by
 refine zrA h p g a (zbB p 4 g a hk hg ha) (R:=fun w'=>HasX w' b v c d L bs f wr rd st lo bu∧OnlyE (EX b v) w w') fun w1 b1=>?_
 exact (zkv (h.next b1) 4 g a h16).mono fun e w' ⟨e1,x2,o2⟩=>⟨e1,x2,(zaB b1).trans o2⟩
theorem zyv {w:World} {b v c d:Nat} {L:List (Nat×(Nat→Value))} {bs:List Int} {f:Nat→Int} {wr rd st lo bu:Int} (h:HasX w b v c d L bs f wr rd st lo bu) (p g a i y:Int) (hk:zaI p=4) (hg:zcJ p=g) (ha:atW p=a) (hy:i%256=y) {q:Nat→Int} (h11:L[11]? = some (244,iv q)) (ok:P22.okP q) {hd:Int} (h16:L[16]? = some (1,fun _=>Value.int .i64 hd)):Calls Tryz.prog 62 #[.pointer (some ⟨b,0,none⟩),.int .i64 p,.int .i64 i] w fun e w'=>e=Ending.returned (.tuple #[])∧HasX w' b v c d ((L.set 11 (244,iv (P22.wrF q a y))).set 16 (1,fun _=>Value.int .i64 y)) bs f wr rd st lo bu∧OnlyE (EX b v) w w':=
 zow h p i g a (zbB p 4 g a hk hg ha) y hy h11 (fun w=>P22.write_any q a y ok w) (zyt _ _) h16
theorem zyw {w:World} {b v c d:Nat} {L:List (Nat×(Nat→Value))} {bs:List Int} {f:Nat→Int} {wr rd st lo bu:Int} (h:HasX w b v c d L bs f wr rd st lo bu) (p g a i y:Int) (hk:zaI p=6) (hg:zcJ p=g) (ha:atW p=a) (hy:i%256=y) {S C D:Bool} {I:Int} (h14:L[14]? = some (4,pv S C D I)) {hd:Int} (h16:L[16]? = some (1,fun _=>Value.int .i64 hd)):Calls Tryz.prog 62 #[.pointer (some ⟨b,0,none⟩),.int .i64 p,.int .i64 i] w fun e w'=>e=Ending.returned (.tuple #[])∧HasX w' b v c d ((L.set 14 (4,pv (J23.selB y) (J23.clrB y) (J23.nxD C D (J23.clrB y)) (J23.nxI S (J23.selB y) (J23.clrB y) I))).set 16 (1,fun _=>Value.int .i64 y)) bs f wr rd st lo bu∧OnlyE (EX b v) w w':=
 zoy h p i g a (zbB p 6 g a hk hg ha) y hy h14 (fun w=>by rw [ztX,ztX];exact J23.write_any S C D I y w) (zyu _ _ _ _) h16
open B4 C3 G6 R15 W13
theorem zmS {w:World} {b:Nat} (x y:Int) (x0:x<1∨7<x):Calls Tryz.prog 144 #[.pointer (some ⟨b,0,none⟩),.int .i64 x,.int .i64 y] w fun e w'=>e=Ending.returned (.tuple #[])∧w'=w:=by
 have e1:(x==1)=false:=by simp;omega
 have e2:(x==2)=false:=by simp;omega
 have e3:(x==3)=false:=by simp;omega
 have e4:(x==4)=false:=by simp;omega
 have e5:(x==5)=false:=by simp;omega
 have e6:(x==6)=false:=by simp;omega
 have e7:(x==7)=false:=by simp;omega
 clear x0;go_enter Tryz.func144,Tryz.ntmps144;go_wp2;go_end0;exact ⟨rfl,rfl⟩
theorem zjC {w:World} {b v c d:Nat} {L:List (Nat×(Nat→Value))} {bs:List Int} {f:Nat→Int} {wr rd st lo bu:Int} (h:HasX w b v c d L bs f wr rd st lo bu) (y x:Int) (hx:y%256=x):Calls Tryz.prog 144 #[.pointer (some ⟨b,0,none⟩),.int .i64 3,.int .i64 y] w fun e w'=>e=Ending.returned (.tuple #[])∧HasX w' b v c d L bs f wr rd st x bu∧OnlyE (EX b v) w w':=by
 have K0:=hide (zog v f wr rd st lo bu w h.2.1 y x hx);clear hx;have c1:=h.1.get1 1 h.2.2.2.2.2.1 (a:=21) (h.isB.off 1 rfl) (by decide);have X1:=hide h;have O1:=hide (OnlyE.of (E:=EX b v) (Below.refl w.heap.size w));have S0:=hide h.2.2.2.2.2.2.2.2.2;clear h;go_enter Tryz.func144,Tryz.ntmps144;go_wp2_with fail;refine K0.out.mono ?_;rintro e w2 ⟨rfl,h2,o2⟩;have X2:=hide (X1.out.vram o2 h2 S0.out);have O2:=hide (O1.out.trans (zeT o2));clear h2 o2 K0;go_wp2;go_end0;exact ⟨rfl,X2.out,O2.out⟩
theorem ziz {w:World} {b v c d:Nat} {L:List (Nat×(Nat→Value))} {bs:List Int} {f:Nat→Int} {wr rd st lo bu:Int} (h:HasX w b v c d L bs f wr rd st lo bu) (y x z:Int) (F:Nat→Int) (hx:lo%256+256*(y%256)=x) (hF:zek f wr x=F) (w0:0≤wr) (w1:wr<65536) (s0:0≤st) (s1:st<65536) (hz:(wr+st)%65536=z):Calls Tryz.prog 144 #[.pointer (some ⟨b,0,none⟩),.int .i64 4,.int .i64 y] w fun e w'=>e=Ending.returned (.tuple #[])∧HasX w' b v c d L bs F z rd st lo bu∧OnlyE (EX b v) w w':=by
 have K0:=hide (zmt v f wr rd st lo bu w h.2.1 y x z F hx hF w0 w1 s0 s1 hz);clear hx hF w0 w1 s0 s1 hz;have c1:=h.1.get1 1 h.2.2.2.2.2.1 (a:=21) (h.isB.off 1 rfl) (by decide);have X1:=hide h;have O1:=hide (OnlyE.of (E:=EX b v) (Below.refl w.heap.size w));have S0:=hide h.2.2.2.2.2.2.2.2.2;clear h;go_enter Tryz.func144,Tryz.ntmps144;go_wp2_with fail;refine K0.out.mono ?_;rintro e w2 ⟨rfl,h2,o2⟩;have X2:=hide (X1.out.vram o2 h2 S0.out);have O2:=hide (O1.out.trans (zeT o2));clear h2 o2 K0;go_wp2;go_end0;exact ⟨rfl,X2.out,O2.out⟩
theorem zhy {w:World} {b v c d:Nat} {L:List (Nat×(Nat→Value))} {bs:List Int} {f:Nat→Int} {wr rd st lo bu:Int} (h:HasX w b v c d L bs f wr rd st lo bu) (y x:Int) {rg:Nat→Int} (h0:L[0]? = some (21,iv rg)) (hx:rg 1%65536=x):Calls Tryz.prog 144 #[.pointer (some ⟨b,0,none⟩),.int .i64 1,.int .i64 y] w fun e w'=>e=Ending.returned (.tuple #[])∧HasX w' b v c d L bs f x rd st lo bu∧OnlyE (EX b v) w w':=by
 have KK:=hide (fun w h=>zgO v f wr rd st lo bu w h (rg 1) x hx);clear hx;have i1:=zac (h.1.get1 1 h.2.2.2.2.2.1 (a:=21) (h.isB.off 1 rfl) (by decide)) h.1.lt;have i0:=zac (h.1.get 0 h0 1 (by decide) (a:=1) (by rw [h.isB.off 0 (a:=0) rfl]) (by decide)) h.1.lt;have HE:=hide h;have S0:=hide h.2.2.2.2.2.2.2.2.2;clear h h0;go_enter Tryz.func144,Tryz.ntmps144;go_wp2_with fail;haveI:=zal w;refine zau _ _ (show _=[_,_,_,_,_,_,_,_,_,_,_,_]++[_] from rfl) (by kernel_rfl) (by kernel_rfl) (by kernel_rfl) ?_
 repeat (go_big_quiet_step (fail))
 refine wpQuiet_nil ?_;rintro _ ⟨wk,rfl⟩;have X1:=hide (HE.out.next wk.below);have O1:=hide (zaB (b:=b) (v:=v) wk.below);have K0:=hide (KK.out wk.val X1.out.2.1);generalize wk.val=w1 at *;clear i1 i0 HE KK;go_wp2_with fail;refine K0.out.mono ?_;rintro e w2 ⟨rfl,h2,o2⟩;have X2:=hide (X1.out.vram o2 h2 S0.out);have O2:=hide (O1.out.trans (zeT o2));clear h2 o2 K0;go_wp2;go_end0;exact ⟨rfl,X2.out,O2.out⟩
theorem ziA {w:World} {b v c d:Nat} {L:List (Nat×(Nat→Value))} {bs:List Int} {f:Nat→Int} {wr rd st lo bu:Int} (h:HasX w b v c d L bs f wr rd st lo bu) (y x z:Int) {rg:Nat→Int} (h0:L[0]? = some (21,iv rg)) (hx:rg 2%65536=x) (hz:zcV f x=z):Calls Tryz.prog 144 #[.pointer (some ⟨b,0,none⟩),.int .i64 2,.int .i64 y] w fun e w'=>e=Ending.returned (.tuple #[])∧HasX w' b v c d L bs f wr x st lo z∧OnlyE (EX b v) w w':=by
 have KK:=hide (fun w h=>zhM v f wr rd st lo bu w h (rg 2) x z hx hz);clear hx hz;have i1:=zac (h.1.get1 1 h.2.2.2.2.2.1 (a:=21) (h.isB.off 1 rfl) (by decide)) h.1.lt;have i0:=zac (h.1.get 0 h0 2 (by decide) (a:=2) (by rw [h.isB.off 0 (a:=0) rfl]) (by decide)) h.1.lt;have HE:=hide h;have S0:=hide h.2.2.2.2.2.2.2.2.2;clear h h0;go_enter Tryz.func144,Tryz.ntmps144;go_wp2_with fail;haveI:=zal w;refine zau _ _ (show _=[_,_,_,_,_,_,_,_,_,_,_,_]++[_] from rfl) (by kernel_rfl) (by kernel_rfl) (by kernel_rfl) ?_
 repeat (go_big_quiet_step (fail))
 refine wpQuiet_nil ?_;rintro _ ⟨wk,rfl⟩;have X1:=hide (HE.out.next wk.below);have O1:=hide (zaB (b:=b) (v:=v) wk.below);have K0:=hide (KK.out wk.val X1.out.2.1);generalize wk.val=w1 at *;clear i1 i0 HE KK;go_wp2_with fail;refine K0.out.mono ?_;rintro e w2 ⟨rfl,h2,o2⟩;have X2:=hide (X1.out.vram o2 h2 S0.out);have O2:=hide (O1.out.trans (zeT o2));clear h2 o2 K0;go_wp2;go_end0;exact ⟨rfl,X2.out,O2.out⟩
theorem zmT {w:World} {b v c d:Nat} {L:List (Nat×(Nat→Value))} {bs:List Int} {f:Nat→Int} {wr rd st lo bu:Int} (h:HasX w b v c d L bs f wr rd st lo bu) (y n x:Int) {rg:Nat→Int} (h0:L[0]? = some (21,iv rg)) (KF:∀w,Calls Tryz.prog 177 #[.agg (rowF (iv rg) 21)] w fun e w'=>e=Ending.returned (.int .i64 n)∧Below w.heap.size w w') (hx:n%65536=x) (x0:x≠0):Calls Tryz.prog 144 #[.pointer (some ⟨b,0,none⟩),.int .i64 5,.int .i64 y] w fun e w'=>e=Ending.returned (.tuple #[])∧HasX w' b v c d L bs f wr rd x lo bu∧OnlyE (EX b v) w w':=by
 have KK:=hide (fun w h=>zms v f wr rd st lo bu w h n x hx);have FK:=hide KF;have i1:=zac (h.1.get1 1 h.2.2.2.2.2.1 (a:=21) (h.isB.off 1 rfl) (by decide)) h.1.lt;have R0:=hide (h.1.range 0 21 (by decide));rw [zbX (h.1.seg 0 h0 (a:=0) (h.isB.off 0 rfl))] at R0;have IG:Hid ((Tryz.prog.info? 27).map (·.size)=some (rowF (iv rg) 21).size):=hide (by rw [zaq];kernel_rfl);have HL:=hide h.1.lt;have HE:=hide h;have S0:=hide x0;clear h h0 KF hx x0;generalize rowF (iv rg) 21=A at *;go_enter Tryz.func144,Tryz.ntmps144;go_wp2_with fail;haveI:=zal w;refine zau _ _ (show _=[_,_,_,_,_,_,_,_,_,_,_]++[_] from rfl) (by kernel_rfl) (by kernel_rfl) (by kernel_rfl) ?_
 repeat (first
  |(refine wpQuiet_mid rfl 27 (.tmp 65) rfl b 0 rfl A _ (fun w' ⟨x,hx⟩=>by rw [hx];intro j y hy;rw [x.cell b _ HL.out];exact R0.out j y hy) Tryz.underlying27 rfl IG.out ?_;simp only [Act.put,List.setIfInBounds_toArray,List.set_cons_succ,List.set_cons_zero])
  |go_big_quiet_step ((go_at_call 177;exact zaU (FK.out _))))
 refine wpQuiet_nil ?_;rintro _ ⟨wk,rfl⟩;have X1:=hide (HE.out.next wk.below);have O1:=hide (zaB (b:=b) (v:=v) wk.below);have K0:=hide (KK.out wk.val X1.out.2.1);generalize wk.val=w1 at *;clear i1 R0 HE KK FK HL;go_wp2_with fail;refine K0.out.mono ?_;rintro e w2 ⟨rfl,h2,o2⟩;have X2:=hide (X1.out.vram o2 h2 S0.out);have O2:=hide (O1.out.trans (zeT o2));clear h2 o2 K0;go_wp2;go_end0;exact ⟨rfl,X2.out,O2.out⟩
theorem zpe {w:World} {b v c d:Nat} {L:List (Nat×(Nat→Value))} {bs:List Int} {f:Nat→Int} {wr rd st lo bu:Int} (h:HasX w b v c d L bs f wr rd st lo bu) (y:Int) {q:Value} (h4:L[4]? = some (1,fun _=>q)):Calls Tryz.prog 144 #[.pointer (some ⟨b,0,none⟩),.int .i64 7,.int .i64 y] w fun e w'=>e=Ending.returned (.tuple #[])∧HasX w' b v c d (L.set 4 (1,fun _=>.bool true)) bs f wr rd st lo bu∧OnlyE (EX b v) w w':=by
 have c4:=h.1.get1 4 h4 (a:=279) (h.isB.off 4 rfl) (by decide);have z4:=h.1.frozen 279;have H4:=hide (h.1.put1 4 h4 (a:=279) (h.isB.off 4 rfl) (.bool true));have HE:=hide h;have E4:=hide h4;clear h h4;go_enter Tryz.func144,Tryz.ntmps144;go_wp2;go_end0;have B:=(But.refl b w).set 279 (.bool true);exact ⟨rfl,HE.out.lay B 4 E4.out H4.out (by decide) (by decide),zbG B⟩
theorem zsj (w:World):(zeroValue 27).run Tryz.prog w=.ok (.agg (rowF (iv fun _=>0) 21)) w:=by kernel_rfl
def mvB (mv:Bool) (s a:Int):Bool:=mv||(s==8&&(a==2||a==3))
theorem zkF {w : World} {b v c d : Nat} {L : List (Nat × (Nat → Value))} {bs : List Int} {f : Nat → Int} {wr rd st lo bu : Int} (h : HasX w b v c d L bs f wr rd st lo bu) (a y : Int) {rg rg' : Nat → Int} {mv : Bool} {br : Int} (h0 : L[0]? = some (21, iv rg)) (h5 : L[5]? = some (1, fun _ => .bool mv))
    (KW : ∀ w, HasMask w → Calls Tryz.prog 143 #[.agg (rowF (iv rg) 21), .int .i64 a, .int .i64 y] w fun e w' => e = Ending.returned (.tuple #[.agg (rowF (iv rg') 21), .int .i64 br]) ∧ Below w.heap.size w w') {R : World → Prop}
    (KB : ∀ w, HasX w b v c d ((L.set 0 (21, iv rg')).set 5 (1, fun _ => .bool (mvB mv (rg' 0) a))) bs f wr rd st lo bu → Calls Tryz.prog 144 #[.pointer (some ⟨b, 0, none⟩), .int .i64 br, .int .i64 y] w fun e w' => e = Ending.returned (.tuple #[]) ∧ R w' ∧ OnlyE (EX b v) w w') :
    Calls Tryz.prog 103 #[.pointer (some ⟨b, 0, none⟩), .int .i64 a, .int .i64 y] w fun e w' => e = Ending.returned (.tuple #[]) ∧ R w' ∧ OnlyE (EX b v) w w' := by
  have W0 := hide (KW w h.tabs.2.2)
  have K0 := hide KB
  have SG := hide (h.1.seg 0 h0 (a := 0) (h.isB.off 0 rfl))
  have E0 := hide h0
  have E5 := hide (zaA (k := 0) h5 (21, iv rg') (by decide))
  have HE := hide h
  have ZO : Hid ((rowF (iv rg') 21).all (·.oneCell') = true) := hide (zcr _ _)
  have ZI : Hid ((Tryz.prog.info? 27).map (·.size) = some (rowF (iv rg') 21).size) := hide (by rw [zaq]; kernel_rfl)
  have ZS : Hid ((rowF (iv fun _ => 0) 21).size = (rowF (iv rg') 21).size) := hide (by rw [zaq, zaq])
  clear h h0 h5 KW KB
  go_enter Tryz.func103, Tryz.ntmps103
  go_upto_region 2 with (first
    | (refine zaC rfl 27 (.tmp 12) rfl b 0 rfl HE.out.1 21 (by decide) (iv rg) SG.out _ Tryz.underlying27 rfl (by kernel_rfl) ?_)
    | (go_at_call 143; refine W0.out.mono ?_; rintro e w2 ⟨rfl, b2⟩; have X2 := hide (HE.out.next b2); have B2 := hide b2; clear b2 W0)
    | (refine zaF rfl 27 rfl (rowF (iv fun _ => 0) 21) zsj ?_)
    | (refine wpList_store_row rfl 27 (.tmp 6) (.tmp 17) rfl w2.heap.size _ rfl rfl 27 _ (zbQ _ _ _ _) ZI.out ZS.out ZO.out ?_
       refine zam fun w3 hw3 => ?_
       have W3 : Below w2.heap.size w2 w3 := (by rw [hw3]; exact below_setRow ((Below.refl _ _).alloc (Nat.le_refl _) _) (Nat.le_refl _) _)
       have M3 : Hid (w3.heap[w2.heap.size]? = some (.cells (rowF (iv rg') 21) 27 (0, 0))) := hide (by rw [hw3]; exact setRow_heap _ _ _ _ _ _ (zbQ _ _ _ _))
       have X3 := hide (X2.out.next W3)
       have B3 := hide (zar B2.out W3)
       clear hw3 W3 X2 B2)
    | (refine wpList_load_row rfl 27 (.tmp 6) rfl w2.heap.size rfl _ _ _ _ M3.out Tryz.underlying27 rfl ZI.out ?_)
    | (refine zaD rfl 27 (.tmp 23) (.tmp 20) rfl b 0 21 (iv rg') rfl rfl X3.out.1 (by decide) (by kernel_rfl) (fun _ _ => rfl) ?_
       refine zam fun w4 hw4 => ?_
       have B4 : But b w3 w4 := (by rw [hw4]; exact But.cells _ _ _ (But.refl b w3))
       have X4 := hide (X3.out.lay B4 0 E0.out (by rw [hw4]; exact X3.out.1.lay 0 E0.out (iv rg') (X3.out.isB.off 0 rfl)) (by decide) (by decide))
       have O4 := hide ((zaB (b := b) (v := v) B3.out).trans (zbG B4))
       clear hw4 B4 X3 B3 M3))
  have cs : w4.cell? ⟨b, 0, none⟩ = some (.int .i64 (rg' 0)) := X4.out.1.get 0 (zcu E0.out _) 0 (by decide) (a := 0) (by rw [X4.out.isB.off 0 (a := 0) rfl]) (by decide)
  clear SG E0 ZO ZI ZS HE
  by_cases s8 : rg' 0 = 8
  · have eb : (rg' 0 == 8) = true := by simp [s8]
    by_cases a2 : a = 2
    · have ec : (a == 2) = true := by simp [a2]
      clear s8 a2
      have em : mvB mv (rg' 0) a = true := by unfold mvB; simp [eb, ec]
      rw [em] at K0
      have c5 := X4.out.1.get1 5 E5.out (a := 280) (X4.out.isB.off 5 rfl) (by decide)
      have z5 := X4.out.1.frozen 280
      have k5 := (But.refl b w4).set 280 (.bool true)
      have X5 := hide (X4.out.lay k5 5 E5.out (X4.out.1.put1 5 E5.out (a := 280) (X4.out.isB.off 5 rfl) (.bool true)) (by decide) (by decide))
      have O5 := hide (O4.out.trans (zbG (v := v) k5))
      clear k5 em
      go_wp2_with fail
      refine (K0.out _ X5.out).mono ?_
      rintro e w6 ⟨rfl, r6, o6⟩
      have R6 := hide r6
      have O6 := hide (O5.out.trans o6)
      clear r6 o6 K0
      go_wp2
      go_end0
      exact ⟨rfl, R6.out, O6.out⟩
    · have ed : (a == 2) = false := by simp [a2]
      by_cases a3 : a = 3
      · have ec : (a == 3) = true := by simp [a3]
        clear s8 a2 a3
        have em : mvB mv (rg' 0) a = true := by unfold mvB; simp [eb, ec]
        rw [em] at K0
        have c5 := X4.out.1.get1 5 E5.out (a := 280) (X4.out.isB.off 5 rfl) (by decide)
        have z5 := X4.out.1.frozen 280
        have k5 := (But.refl b w4).set 280 (.bool true)
        have X5 := hide (X4.out.lay k5 5 E5.out (X4.out.1.put1 5 E5.out (a := 280) (X4.out.isB.off 5 rfl) (.bool true)) (by decide) (by decide))
        have O5 := hide (O4.out.trans (zbG (v := v) k5))
        clear k5 em
        go_wp2_with fail
        refine (K0.out _ X5.out).mono ?_
        rintro e w6 ⟨rfl, r6, o6⟩
        have R6 := hide r6
        have O6 := hide (O5.out.trans o6)
        clear r6 o6 K0
        go_wp2
        go_end0
        exact ⟨rfl, R6.out, O6.out⟩
      · have ec : (a == 3) = false := by simp [a3]
        have ef : (a == 2 || a == 3) = false := by rw [ed, ec]; rfl
        clear s8 a2 a3
        have em : mvB mv (rg' 0) a = mv := by unfold mvB; rw [ef]; simp
        rw [em, zhJ E5.out] at K0
        clear em ef
        go_wp2_with fail
        refine (K0.out _ X4.out).mono ?_
        rintro e w6 ⟨rfl, r6, o6⟩
        have R6 := hide r6
        have O6 := hide (O4.out.trans o6)
        clear r6 o6 K0
        go_wp2
        go_end0
        exact ⟨rfl, R6.out, O6.out⟩
  · have eb : (rg' 0 == 8) = false := by simp [s8]
    clear s8
    have em : mvB mv (rg' 0) a = mv := by unfold mvB; simp [eb]
    rw [em, zhJ E5.out] at K0
    clear em
    go_wp2_with fail
    refine (K0.out _ X4.out).mono ?_
    rintro e w6 ⟨rfl, r6, o6⟩
    have R6 := hide r6
    have O6 := hide (O4.out.trans o6)
    clear r6 o6 K0
    go_wp2
    go_end0
    exact ⟨rfl, R6.out, O6.out⟩
end Go.Proofs.YtoijhhbiknhlnaaGreatDoor.L24
