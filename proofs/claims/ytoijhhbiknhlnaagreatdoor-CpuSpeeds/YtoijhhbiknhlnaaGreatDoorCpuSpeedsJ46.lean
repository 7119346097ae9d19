/- Texts put together. -/
import Derived.Test.YtoijhhbiknhlnaaGreatDoorCpuSpeedsJ45
import Derived.Test.YtoijhhbiknhlnaaGreatDoorCpuSpeedsJ02
import Derived.Test.YtoijhhbiknhlnaaGreatDoorCpuSpeedsJ01
import Derived.Test.YtoijhhbiknhlnaaGreatDoorCpuSpeedsJ05
import Derived.Deep.CutRange
import Derived.Test.YtoijhhbiknhlnaaGreatDoorCpuSpeedsJ19
import Derived.Test.YtoijhhbiknhlnaaGreatDoorCpuSpeedsJ23
namespace Go.Proofs.YtoijhhbiknhlnaaGreatDoor.L25
set_option maxHeartbeats 4000000
set_option maxRecDepth 20000
open A2 B4 C3 G6 I11 J23 K9 L24 M5 N8 O7 P22 R15 T10 V12 W13
open Go.RowKit
set_option linter.unusedVariables false
def rg (a x y s p pc:Int):Nat→Int:=fun j=>if j=0 then a else if j=1 then x else if j=2 then y else if j=3 then s else if j=4 then p else if j=5 then pc else 0
theorem zBd (a x y s p pc z:Int):up (rg a x y s p pc) 4 z=rg a x y s z pc:=funext fun j=>by by_cases h:j=4<;>simp [up,rg,h]
theorem zBe (a x y s p pc z:Int):up (rg a x y s p pc) 5 z=rg a x y s p z:=funext fun j=>by by_cases h:j=5<;>simp [up,rg,h]
theorem zqz {a x y s p pc:Int} (h0:zad a) (h1:zad x) (h2:zad y) (h3:zad s) (h4:zad p) (h5:0≤pc∧pc<65536):cutR (rg a x y s p pc)=rg a x y s p pc:=funext fun j=>by
 unfold zad at h0 h1 h2 h3 h4;unfold cutR;rcases j with _|_|_|_|_|_|j
 ·exact Int.emod_eq_of_lt h0.1 (show a<256 by omega)
 ·exact Int.emod_eq_of_lt h1.1 (show x<256 by omega)
 ·exact Int.emod_eq_of_lt h2.1 (show y<256 by omega)
 ·exact Int.emod_eq_of_lt h3.1 (show s<256 by omega)
 ·exact Int.emod_eq_of_lt h4.1 (show p<256 by omega)
 ·exact Int.emod_eq_of_lt h5.1 h5.2
 ·simp [rg]
def cz (Y:Nat→Nat→Int) (M R:Nat→Int) (f l c:Int):Nat→Nat→Int:=upZ (upZ (upZ (upZ (upZ Y 8 M) 20 R) 21 (oneV f)) 22 (oneV l)) 23 (oneV c)
theorem cz_8 {Y:Nat→Nat→Int} {M R:Nat→Int} {f l c:Int}:cz Y M R f l c 8=M:=rfl
theorem cz_9 {Y:Nat→Nat→Int} {M R:Nat→Int} {f l c:Int}:cz Y M R f l c 9=Y 9:=rfl
theorem cz_13 {Y:Nat→Nat→Int} {M R:Nat→Int} {f l c:Int}:cz Y M R f l c 13=Y 13:=rfl
theorem zqA {Y:Nat→Nat→Int} {M R:Nat→Int} {f l c:Int}:cz Y M R f l c 20=R:=rfl
theorem cz_21 {Y:Nat→Nat→Int} {M R:Nat→Int} {f l c:Int}:cz Y M R f l c 21=oneV f:=rfl
theorem cz_22 {Y:Nat→Nat→Int} {M R:Nat→Int} {f l c:Int}:cz Y M R f l c 22=oneV l:=rfl
theorem cz_23 {Y:Nat→Nat→Int} {M R:Nat→Int} {f l c:Int}:cz Y M R f l c 23=oneV c:=rfl
theorem zui {Y:Nat→Nat→Int} {M R:Nat→Int} {f l c:Int} (n:Int):cyc (cz Y M R f l c) n=cz Y M R f l (wrap64 (c+n)):=by
 unfold cyc;rw [cz_23];unfold cz;rw [zkI];rfl
theorem zqB {Y:Nat→Nat→Int} {M R:Nat→Int} {f l c:Int} (k:Nat) (x:Int):setR (cz Y M R f l c) k x=cz Y M (up R k x) f l c:=by
 unfold setR;rw [zqA];unfold cz;rw [zba _ 20 23 _ _ (by decide),zba _ 20 22 _ _ (by decide),zba _ 20 21 _ _ (by decide),zkI]
theorem zqC {Y:Nat→Nat→Int} {M R:Nat→Int} {f l c:Int} (x:Int):upZ (cz Y M R f l c) 21 (oneV x)=cz Y M R x l c:=by
 unfold cz;rw [zba _ 21 23 _ _ (by decide),zba _ 21 22 _ _ (by decide),zkI]
theorem zqD {Y:Nat→Nat→Int} {M R:Nat→Int} {f l c:Int}:setZ (cz Y M R f l c)=cz (setZ Y) M R f l c:=by
 unfold cz;rw [zfR _ _ _ (by decide),zfR _ _ _ (by decide),zfR _ _ _ (by decide),zfR _ _ _ (by decide),zfR _ _ _ (by decide)]
theorem zuj {Y:Nat→Nat→Int} {M R0:Nat→Int} {f0 l0 c0:Int} (hY:setZ Y=Y) (R:Nat→Int) (f:Bool) (l:Int):inZ (cz Y M R0 f0 l0 c0) R f l=cz Y M (cutR R) (b2i f) l 0:=by
 unfold inZ;rw [zqD,hY];funext k;unfold cz upZ
 by_cases h3:k=23
 ·simp [h3]
 by_cases h2:k=22
 ·simp [h2]
 by_cases h1:k=21
 ·simp [h1]
 by_cases h0:k=20
 ·simp [h0]
 simp [h0,h1,h2,h3]
theorem zqE {Y:Nat→Nat→Int} {M R:Nat→Int} {f l c:Int} (h9:Y 9 1=248) {a:Int} {k:Nat} (ha:a=8192+(k:Int)) (hk:k<8192):phZ (cz Y M R f l c) a=2031616+(k:Int):=by
 subst ha;unfold phZ zlA;rw [cz_9,show ((8192+(k:Int))%65536/8192).toNat=1 by omega,h9];omega
theorem zqF {k:Nat} (hk:k<8192):zaI (2031616+(k:Int))=1:=by
 unfold zaI;rw [if_neg (by omega),if_neg (by omega),if_pos (by omega)]
theorem cz_rV {Y:Nat→Nat→Int} {M R:Nat→Int} {f l c:Int} (bs:List Int) (h9:Y 9 1=248) {a:Int} {k:Nat} (ha:a=8192+(k:Int)) (hk:k<8192):rV bs (cz Y M R f l c) a=M k:=by
 unfold rV;rw [zqE h9 ha hk];unfold rdV;rw [zqF hk,if_neg (by decide),if_pos rfl,cz_8,show ((2031616+(k:Int))%8192).toNat=k by omega]
theorem cz_sl {Y:Nat→Nat→Int} {M R:Nat→Int} {f l c:Int} (h9:Y 9 1=248) {a:Int} {k:Nat} (ha:a=8192+(k:Int)) (hk:k<8192):slZ (cz Y M R f l c) a=0:=by
 unfold slZ;rw [zqE h9 ha hk,zqF hk];rfl
theorem zqG {c:Int} (h:0≤c∧c<1000000):wrap64 (c+0)=c:=by unfold wrap64;omega
theorem cz_rS {Y:Nat→Nat→Int} {M R:Nat→Int} {f l c:Int} (h9:Y 9 1=248) {a:Int} {k:Nat} (ha:a=8192+(k:Int)) (hk:k<8192) (hc:0≤c∧c<1000000):rS (cz Y M R f l c) a=cz Y M R f l c:=by
 unfold rS;rw [cz_sl h9 ha hk,zqE h9 ha hk,zui,zqG hc];unfold rdZ;rw [zqF hk,if_neg (by decide),if_neg (by decide),if_neg (by decide),if_neg (by decide),if_neg (by decide)]
def beh (M:Nat→Int) (q k:Nat):Nat→Int:=fun j=>if j<k then M (q+j) else 0
theorem zwM (R:Nat→Int) (k:Nat):up R k (R k)=R:=funext fun j=>by by_cases h:j=k<;>simp [up,h]
theorem up_up (R:Nat→Int) (k:Nat) (x y:Int):up (up R k x) k y=up R k y:=funext fun j=>by by_cases h:j=k<;>simp [up,h]
theorem zwN {Y:Nat→Nat→Int} {M R:Nat→Int} {f l c:Int} (bs:List Int) (h9:Y 9 1=248) {q:Nat} (h5:R 5=8192+(q:Int)) (hq:q<8192):nV bs (cz Y M R f l c)=M q:=by
 unfold nV;rw [zqA];exact cz_rV bs h9 h5 hq
theorem zBf {Y:Nat→Nat→Int} {M R:Nat→Int} {f l c:Int} (h9:Y 9 1=248) {q:Nat} (h5:R 5=8192+(q:Int)) (hq:q<8192) (hc:0≤c∧c<1000000):nx (cz Y M R f l c)=cz Y M (up R 5 (8192+((q+1:Nat):Int))) f l c:=by
 unfold nx;rw [zqA,cz_rS h9 h5 hq hc,zqB,h5]
 congr 2
 omega
theorem zqH {Y:Nat→Nat→Int} {M R:Nat→Int} {f l c:Int} (h9:Y 9 1=248) {q:Nat} (h5:R 5=8192+(q:Int)) (hc:0≤c∧c<1000000):∀k:Nat,q+k≤8192→nxN (cz Y M R f l c) k=cz Y M (up R 5 (8192+((q+k:Nat):Int))) f l c
 |0,_=>by
  show cz Y M R f l c=_;rw [Nat.add_zero,←h5,zwM]
 |k+1,hk=>by
  show nx (nxN (cz Y M R f l c) k)=_;rw [zqH h9 h5 hc k (by omega),zBf h9 (q:=q+k) (zfM _ _ _) (by omega) hc,up_up];rfl
theorem zuk {Y:Nat→Nat→Int} {M R:Nat→Int} {f l c:Int} (bs:List Int) (h9:Y 9 1=248) {q:Nat} (h5:R 5=8192+(q:Int)) (hc:0≤c∧c<1000000):∀k:Nat,q+k≤8192→behN bs (cz Y M R f l c) k=beh M q k
 |0,_=>rfl
 |k+1,hk=>by
  show up (behN bs (cz Y M R f l c) k) k (nV bs (nxN (cz Y M R f l c) k))=_;rw [zuk bs h9 h5 hc k (by omega),zqH h9 h5 hc k (by omega),zwN bs h9 (q:=q+k) (zfM _ _ _) (by omega)];funext j;unfold up beh
  by_cases e:j=k
  ·subst e;rw [if_pos rfl,if_pos (by omega)]
  ·rw [if_neg e]
   by_cases e2:j<k
   ·rw [if_pos e2,if_pos (by omega)]
   ·rw [if_neg e2,if_neg (by omega)]
theorem zqI (n:Nat) (hn:n<256):(0≤zdZ n∧zdZ n<100)∧1≤zce n∧zce n≤7:=by
 have h:(List.range 256).all (fun b=>decide ((0≤zdZ b∧zdZ b<100)∧1≤zce b∧zce b≤7))=true:=by kernel_rfl
 exact of_decide_eq_true (zhb h n hn)
def iC (M R:Nat→Int) (q n:Nat):Nat→Int:=iF (zbH n) (zce n) (zdZ n) (opF (zbH n) (beh M (q+1) (zce n-1).toNat)) (mkF (zbH n) (beh M (q+1) (zce n-1).toNat)) (frF (zbH n) (beh M (q+1) (zce n-1).toNat)) (zfy (zbH n) (R 1) (R 2) (opF (zbH n) (beh M (q+1) (zce n-1).toNat)) 0)
theorem znB {Y:Nat→Nat→Int} {M R:Nat→Int} {f l:Int} (bs:List Int) (h9:Y 9 1=248) {q n:Nat} (h5:R 5=8192+(q:Int)) (hq:q+7≤8192) (hN:M q=(n:Int)) (hn:n<256) (hp:zea (zbH n)=false):fN bs (cz Y M R f l 0)=n:=by
 unfold fN;rw [zwN bs h9 h5 (by omega),hN];omega
theorem zBg {Y:Nat→Nat→Int} {M R:Nat→Int} {f l:Int} (bs:List Int) (h9:Y 9 1=248) {q n:Nat} (h5:R 5=8192+(q:Int)) (hq:q+7≤8192) (hN:M q=(n:Int)) (hn:n<256) (hp:zea (zbH n)=false):f1 bs (cz Y M R f l 0)=cz Y M (up R 5 (8192+((q+1:Nat):Int))) f l (zdZ n):=by
 have hr:=zqI n hn;unfold f1;rw [znB bs h9 h5 hq hN hn hp,zBf h9 h5 (by omega) (by decide),zui]
 congr 1
 unfold wrap64;omega
theorem zBh {Y:Nat→Nat→Int} {M R:Nat→Int} {f l:Int} (bs:List Int) (h9:Y 9 1=248) {q n:Nat} (h5:R 5=8192+(q:Int)) (hq:q+7≤8192) (hN:M q=(n:Int)) (hn:n<256) (hp:zea (zbH n)=false):fB bs (cz Y M R f l 0)=(beh M (q+1) (zce n-1).toNat):=by
 have hr:=zqI n hn;unfold fB;rw [zBg bs h9 h5 hq hN hn hp,znB bs h9 h5 hq hN hn hp];exact zuk bs h9 (zfM _ _ _) (by omega) _ (by omega)
theorem cz_f3 {Y:Nat→Nat→Int} {M R:Nat→Int} {f l:Int} (bs:List Int) (h9:Y 9 1=248) {q n:Nat} (h5:R 5=8192+(q:Int)) (hq:q+7≤8192) (hN:M q=(n:Int)) (hn:n<256) (hp:zea (zbH n)=false):f3 bs (cz Y M R f l 0)=cz Y M (up (up R 5 (8192+(q:Int)+zce n)) 4 (anP (R 4) 32)) f l (zdZ n):=by
 have hr:=zqI n hn;unfold f3 f2;rw [zBg bs h9 h5 hq hN hn hp,znB bs h9 h5 hq hN hn hp,zqH h9 (q:=q+1) (zfM _ _ _) (by omega) _ (by omega),zqB,up_up,zqA,show (8192+((q+1+(zce n-1).toNat:Nat):Int))=8192+(q:Int)+zce n by omega]
theorem cz_f4 {Y:Nat→Nat→Int} {M R:Nat→Int} {f l:Int} (bs:List Int) (h9:Y 9 1=248) {q n:Nat} (h5:R 5=8192+(q:Int)) (hq:q+7≤8192) (hN:M q=(n:Int)) (hn:n<256) (hp:zea (zbH n)=false):f4 bs (cz Y M R f l 0)=cz Y M (up (up R 5 (8192+(q:Int)+zce n)) 4 (anP (R 4) 32)) f l (zdZ n):=by
 unfold f4 fM;rw [znB bs h9 h5 hq hN hn hp,hp,if_neg (by decide),cz_f3 bs h9 h5 hq hN hn hp]
theorem cz_fI {Y:Nat→Nat→Int} {M R:Nat→Int} {f l:Int} (bs:List Int) (h9:Y 9 1=248) {q n:Nat} (h5:R 5=8192+(q:Int)) (hq:q+7≤8192) (hN:M q=(n:Int)) (hn:n<256) (hp:zea (zbH n)=false):fI bs (cz Y M R f l 0)=iC M R q n:=by
 unfold fI fP fQ fO fK fR fM;rw [zBh bs h9 h5 hq hN hn hp,znB bs h9 h5 hq hN hn hp,hp,if_neg (by decide)];rfl
theorem zwO {w:World} {b v c d:Nat} {bs:List Int} {Y:Nat→Nat→Int} {M R0:Nat→Int} {f0 l0 c0:Int} (h:HasM w b v c d bs (cz Y M R0 f0 l0 c0)) (h9:Y 9 1=248) (hs:setZ Y=Y) (px:Int)
  {R:Nat→Int} (hR:cutR R=R) (f:Bool) (l:Int) (KP:∀w,HasVec w→Calls Tryz.prog 20 #[.agg (rowF (sv (Y 13 0) (Y 13 1)) 2),.int .i64 (R 4)] w fun e w'=>e=Ending.returned (.tuple #[.int .i64 px,.bool false])∧Below w.heap.size w w')
  {q n:Nat} (h5:R 5=8192+(q:Int)) (hq:q+7≤8192) (hN:M q=(n:Int)) (hn:n<256) (hp:zea (zbH n)=false) {ZZ:Nat→Nat→Int}
  (hdo:DoZ bs (zcW n) (iC M R q n) (beh M (q+1) (zce n-1).toNat) (hasF (R 4) 32) (cz Y M (up (up R 5 (8192+(q:Int)+zce n)) 4 (anP (R 4) 32)) (b2i f) l (zdZ n)) ZZ):
  Calls Tryz.prog 13 #[.agg #[.int .i64 (R 0),.int .i64 (R 1),.int .i64 (R 2),.int .i64 (R 3),.int .i64 (R 4),.int .i64 (R 5),.bool f,.int .i64 l],.pointer (some ⟨b,0,none⟩)] w fun e w'=>e=Ending.returned (.tuple #[.agg (zgm ZZ),.int .i64 (ZZ 23 0)])∧HasM w' b v c d bs ZZ∧OnlyE (EX b v) w w':=by
 have e4:R 4%256=R 4:=congrFun hR 4;have ei:=zuj (M:=M) (R0:=R0) (f0:=f0) (l0:=l0) (c0:=c0) hs R f l;rw [hR] at ei;refine zlX h R f l px ?_ ?_
 ·rw [zqD,hs,cz_13,e4];exact KP
 ·rw [ei,znB bs h9 h5 hq hN hn hp,cz_fI bs h9 h5 hq hN hn hp,zBh bs h9 h5 hq hN hn hp,cz_f4 bs h9 h5 hq hN hn hp];exact hdo
theorem zkb (p:Int) (w:World) (hT:HasVec w):Calls Tryz.prog 20 #[.agg (rowF (sv 0 0) 2),.int .i64 p] w fun e w'=>e=Ending.returned (.tuple #[.int .i64 0,.bool false])∧Below w.heap.size w w':=by
 by_cases hp:p%8<4
 ·exact zoS 0 0 p hp w hT
 ·exact zoT 0 0 p (by omega) w
def HasC (w:World) (b v c d:Nat) (bs:List Int) (Y:Nat→Nat→Int) (M:Nat→Int):Prop:=∃R0 f0 l0 c0,HasM w b v c d bs (cz Y M R0 f0 l0 c0)
theorem HasC.next {w w':World} {b v c d:Nat} {bs:List Int} {Y:Nat→Nat→Int} {M:Nat→Int} (h:HasC w b v c d bs Y M) (k:Below w.heap.size w w'):HasC w' b v c d bs Y M:=by
 obtain ⟨R0,f0,l0,c0,h⟩:=h;exact ⟨R0,f0,l0,c0,h.next k⟩
def Calm (Y:Nat→Nat→Int):Prop:=Y 9 1=248∧setZ Y=Y∧Y 13 0=0∧Y 13 1=0
theorem pc1 (q:Nat):(8192+(q:Int)+1)=8192+((q+1:Nat):Int):=by omega
def dn (k:Nat):Nat:=(k+255)%256
end Go.Proofs.YtoijhhbiknhlnaaGreatDoor.L25
namespace Go.Proofs.YtoijhhbiknhlnaaGreatDoor.D24
set_option maxHeartbeats 4000000
set_option maxRecDepth 20000
open Go.RowKit
set_option linter.unusedVariables false
def ylens:List Nat:=[1,1,1,1,8,21,1,256,1,1,1,514,244,4,1,1,4,10,1]
def IsY (L:List (Nat×(Nat→Value))):Prop:=L.map Prod.fst=ylens
theorem IsY.off {L:List (Nat×(Nat→Value))} (h:IsY L) (k:Nat) {a:Nat} (ha:(ylens.take k).sum=a):soff L k=a:=ztM h k ha
theorem IsY.set {L:List (Nat×(Nat→Value))} (h:IsY L) {k n:Nat} {f:Nat→Value} (hk:L[k]? = some (n,f)) (f':Nat→Value):IsY (L.set k (n,f')):=zln h hk f'
open W13
def HasY (w:World) (b c d r:Nat) (L:List (Nat×(Nat→Value))) (f:Nat→Int) (wr rd st lo bu:Int) (ram:Nat→Int):Prop:=
 HasF 141 w b 1072 (segs L)∧HasR w c d f wr rd st lo bu∧HasF 3 w r 8192 (iv ram)∧IsY L∧L[6]? = some (1,fun _=>.pointer (some ⟨c,0,none⟩))∧L[3]? = some (1,fun _=>.slice (some ⟨r,0,none⟩) 8192 8192)∧(b≠c∧b≠d∧b≠r∧c≠r∧d≠r)
theorem HasY.next {w:World} {b c d r:Nat} {L:List (Nat×(Nat→Value))} {f:Nat→Int} {wr rd st lo bu:Int} {ram:Nat→Int} (h:HasY w b c d r L f wr rd st lo bu ram) {w':World} (k:Below w.heap.size w w'):HasY w' b c d r L f wr rd st lo bu ram:=⟨h.1.next k,h.2.1.next k,h.2.2.1.next k,h.2.2.2⟩
theorem HasY.row {w:World} {b c d r:Nat} {L:List (Nat×(Nat→Value))} {f:Nat→Int} {wr rd st lo bu:Int} {ram:Nat→Int} (h:HasY w b c d r L f wr rd st lo bu ram) {w':World} {L':List (Nat×(Nat→Value))} (k:But b w w') (h':HasF 141 w' b 1072 (segs L')) (y:IsY L') (y6:L'[6]? = L[6]?) (y3:L'[3]? = L[3]?):HasY w' b c d r L' f wr rd st lo bu ram:=
 ⟨h',⟨k.obj h.2.1.1 (fun e=>h.2.2.2.2.2.2.1 e.symm),k.obj h.2.1.2.1 (fun e=>h.2.2.2.2.2.2.2.1 e.symm),h.2.1.2.2⟩,k.keep h.2.2.1 (fun e=>h.2.2.2.2.2.2.2.2.1 e.symm),y,y6.trans h.2.2.2.2.1,y3.trans h.2.2.2.2.2.1,h.2.2.2.2.2.2⟩
def t0C:Nat→Value:=fun j=>if j=2 then .bool false else .int .i64 0
def p0C:Nat→Value:=fun j=>if j<3 then .bool false else .int .i64 0
def a0C:Nat→Value:=fun j=>if j%2=0 then .int .i64 0 else .bool false
def LN (P:Int) (sl:Value) (g c:Nat) (fl ps:Nat→Int):List (Nat×(Nat→Value)):=
 [(1,fun _=>Value.int .i64 P),(1,fun _=>Value.int .i64 0),(1,fun _=>sl),(1,fun _=>.slice (some ⟨g,0,none⟩) 8192 8192),(8,iv fl),(21,iv fun _=>0),(1,fun _=>.pointer (some ⟨c,0,none⟩)),(256,iv fun _=>0),(1,fun _=>Value.int .i64 0),(1,fun _=>.bool false),(1,fun _=>.bool false),(514,iv fun _=>0),(244,iv ps),(4,t0C),(1,fun _=>Value.int .i64 0),(1,fun _=>Value.int .i64 0),(4,p0C),(10,a0C),(1,fun _=>Value.int .i64 255)]
theorem zkc (P:Int) (sl:Value) (g c:Nat) (fl ps:Nat→Int):IsY (LN P sl g c fl ps):=rfl
theorem zwP (P:Int) (sp:Option Addr) (n m g c:Nat) (w:World):(Instr.build 141 #[(0,.int .i64 P),(2,.slice sp n m),(3,.slice (some ⟨g,0,none⟩) 8192 8192),(6,.pointer (some ⟨c,0,none⟩)),(18,.int .i64 255)]).run Tryz.prog w=.ok (.agg (rowF (segs (LN P (.slice sp n m) g c (fun _=>0) (fun _=>0))) 1072)) w:=run_build w _ _ _ (by kernel_rfl)
def rnTo (k:Nat):Nat→Int:=fun j=>if 42≤j∧(j-42)%40=0∧(j-42)/40<k then 1 else 0
theorem zBi:rnTo 0=fun _=>0:=funext fun j=>by unfold rnTo;rw [if_neg (by omega)]
theorem zqJ (k:Nat):up (rnTo k) (42+k*40) 1=rnTo (k+1):=funext fun j=>by
 unfold up rnTo
 by_cases e:j=42+k*40
 ·rw [if_pos e,if_pos (by omega)]
 ·rw [if_neg e]
  by_cases h:42≤j∧(j-42)%40=0∧(j-42)/40<k
  ·rw [if_pos h,if_pos (by omega)]
  ·rw [if_neg h,if_neg (by omega)]
def Ram0 (W w:World) (g:Nat):Prop:=HasF 3 w g 8192 (iv fun _=>0)∧W.heap.size≤g
def Vram0 (W w:World) (c d:Nat):Prop:=HasR w c d (fun _=>0) 0 0 1 0 0∧W.heap.size≤c∧W.heap.size≤d
def nwR (W:World) (sp:Option Addr) (n m:Nat) (i:Nat) (v:Value) (w:World):Prop:=match i with
 |0=>v=.slice sp n m
 |1=>v=.int .i64 (n:Int)
 |2=>v=.int .i64 ((n:Int)/8192)
 |3=>v=.slice sp n m
 |4=>∃g,v=.slice (some ⟨g,0,none⟩) 8192 8192∧Ram0 W w g
 |5=>∃c d,v=.pointer (some ⟨c,0,none⟩)∧Vram0 W w c d
 |6=>∃g c d,v=.agg (rowF (segs (LN ((n:Int)/8192) (.slice sp n m) g c (fun _=>0) (fun _=>0))) 1072)∧Ram0 W w g∧Vram0 W w c d
 |_=>∃b g c d,v=.pointer (some ⟨b,0,none⟩)∧(HasF 141 w b 1072 (segs (LN ((n:Int)/8192) (.slice sp n m) g c (fun _=>0) (fun _=>0)))∧W.heap.size≤b)∧Ram0 W w g∧Vram0 W w c d
theorem Ram0.next {W w w':World} {g:Nat} (h:Ram0 W w g) (k:Below w.heap.size w w'):Ram0 W w' g:=⟨h.1.next k,h.2⟩
theorem Vram0.next {W w w':World} {c d:Nat} (h:Vram0 W w c d) (k:Below w.heap.size w w'):Vram0 W w' c d:=⟨h.1.next k,h.2⟩
theorem ztn (W:World) (sp:Option Addr) (n m:Nat):∀i v w w',nwR W sp n m i v w→Below w.heap.size w w'→nwR W sp n m i v w':=by
 intro i v w w' h k;rcases i with _|_|_|_|_|_|_|i
 ·exact h
 ·exact h
 ·exact h
 ·exact h
 ·obtain ⟨g,e,r⟩:=h;exact ⟨g,e,r.next k⟩
 ·obtain ⟨c,d,e,r⟩:=h;exact ⟨c,d,e,r.next k⟩
 ·obtain ⟨g,c,d,e,r,q⟩:=h;exact ⟨g,c,d,e,r.next k,q.next k⟩
 ·obtain ⟨b,g,c,d,e,p,r,q⟩:=h;exact ⟨b,g,c,d,e,⟨p.1.next k,p.2⟩,r.next k,q.next k⟩
theorem zqK {T:TypeId} {w:World} {b N:Nat} {L:List (Nat×(Nat→Value))} (h:HasF T w b N (segs L)) (k:Nat) {n:Nat} {f:Nat→Int} (hk:L[k]? = some (n,iv f)) (j:Nat) (hj:j<n) {a:Nat} (ha:soff L k+j=a) (x:Int):HasF T (w.setCell ⟨b,a,none⟩ (.int .i64 x)) b N (segs (L.set k (n,iv (up f j x)))):=by
 have q:=h.put k hk j hj ha (.int .i64 x);rw [zgJ] at q;exact q
theorem zto {w:World} {d g:Nat} {f h:Nat→Int} (h1:HasRow w d (zcK f)) (h2:HasF 3 w g 8192 (iv h)):d≠g:=by
 intro e;subst e;have k:=h1.symm.trans h2;simp only [Option.some.injEq,Obj.cells.injEq] at k;have s:=congrArg Array.size k.1;rw [zaq] at s;simp [zcK] at s
theorem zwQ:(zgP 8192).toArray=rowF (iv fun _=>0) 8192:=by
 unfold zgP;exact (znT 8192).symm
theorem ynew_any (sp:Option Addr) (n m:Nat) (hn:n≤100000000) (w:World):Calls Tryz.prog 69 #[.slice sp n m] w fun e w'=>∃b c d r,e=Ending.returned (.pointer (some ⟨b,0,none⟩))∧HasY w' b c d r (LN ((n:Int)/8192) (.slice sp n m) r c (up (fun _=>0) 1 248) (rnTo 6)) (fun _=>0) 0 0 1 0 0 (fun _=>0)∧(w.heap.size≤b∧w.heap.size≤c∧w.heap.size≤d∧w.heap.size≤r)∧Below w.heap.size w w':=by
 have e1:Int.tdiv (n:Int) 8192=(n:Int)/8192:=Int.tdiv_eq_ediv_of_nonneg (by omega);have hm:=zju 8192 (by omega) (by omega);rw [show (8192:Int).toNat=8192 from rfl,zwQ] at hm;have HM:=hide hm;clear hm;go_enter Tryz.func69,Tryz.ntmps69;go_wp2_with fail;refine zgH (nwR w sp n m) _ (fun vals=>by simp only [zat,Act.put,List.setIfInBounds_toArray,List.set_cons_succ,List.set_cons_zero,Nat.reduceAdd];rfl) (by kernel_rfl) (by kernel_rfl) (by kernel_rfl) (ztn w sp n m) ?_ ?_
 ·refine zbb (fun vals u hb hf=>?_) (zbb (fun vals u hb hf=>?_) (zbb (fun vals u hb hf=>?_) (zbb (fun vals u hb hf=>?_) (zbb (fun vals u hb hf=>?_) (zbb (fun vals u hb hf=>?_) (zbb (fun vals u hb hf=>?_) (zbb (fun vals u hb hf=>?_) (zbb (fun vals u hb hf=>?_) zjj))))))))
  ·go_wp2_with fail;exact zaQ _ rfl rfl (Below.refl _ _)
  ·obtain ⟨(h0:vals 0=.slice sp n m),_⟩:=hf;simp only [h0];clear h0;go_wp2_with fail;exact zaQ _ rfl rfl (Below.refl _ _)
  ·obtain ⟨(h1:vals 1=.int .i64 (n:Int)),_⟩:=hf;simp only [h1];clear h1;go_wp2_with fail;exact zaQ _ rfl rfl (Below.refl _ _)
  ·go_wp2_with fail;exact zaQ _ rfl rfl (Below.refl _ _)
  ·have hm:=HM.out u;obtain ⟨u2,hu2⟩:∃u2,u2=u.alloc (.cells (rowF (iv fun _=>0) 8192) 3):=⟨_,rfl⟩
   have R2:=hide (show Ram0 w u2 u.heap.size by rw [hu2];exact ⟨zbQ _ _ _ _,hb.size⟩);have B2:=hide (show Below u.heap.size u u2 by rw [hu2];exact (Below.refl _ u).alloc (Nat.le_refl _) _);rw [←hu2] at hm;clear hu2;go_wp2_with fail;exact zaQ _ rfl ⟨_,rfl,R2.out⟩ B2.out
  ·go_wp2_with fail;refine (zrr u).mono ?_;rintro e u2 ⟨rfl,h2,b2⟩;have R2:=hide (show Vram0 w u2 (u.heap.size+1) u.heap.size from ⟨h2,Nat.le_trans hb.size (Nat.le_succ _),hb.size⟩);have B2:=hide b2;clear h2 b2;go_wp2_with fail;exact zaQ _ rfl ⟨_,_,rfl,R2.out⟩ B2.out
  ·obtain ⟨(h2:vals 2=.int .i64 ((n:Int)/8192)),(h3:vals 3=.slice sp n m),⟨g,h4,r4⟩,⟨c,d,h5,r5⟩,_⟩:=hf;have R4:=hide r4;have R5:=hide r5;simp only [h2,h3,h4,h5];clear h2 h3 h4 h5 r4 r5;refine wpList_built rfl 141 _ rfl #[(0,.int .i64 ((n:Int)/8192)),(2,.slice sp n m),(3,.slice (some ⟨g,0,none⟩) 8192 8192),(6,.pointer (some ⟨c,0,none⟩)),(18,.int .i64 255)] (by simp [Act.eval]) _ (zwP _ sp n m g c) ?_;exact zaQ _ rfl ⟨g,c,d,rfl,R4.out,R5.out⟩ (Below.refl _ _)
  ·obtain ⟨⟨g,c,d,h6,r4,r5⟩,_⟩:=hf;simp only [h6];have P:=hide (zbQ 141 u 1072 (segs (LN ((n:Int)/8192) (.slice sp n m) g c (fun _=>0) (fun _=>0))));have B2:=(Below.refl _ u).alloc (Nat.le_refl _) (.cells (rowF (segs (LN ((n:Int)/8192) (.slice sp n m) g c (fun _=>0) (fun _=>0))) 1072) 141);have FACT:=hide (show nwR w sp n m 7 (.pointer (some ⟨u.heap.size,0,none⟩)) (u.alloc (.cells (rowF (segs (LN ((n:Int)/8192) (.slice sp n m) g c (fun _=>0) (fun _=>0))) 1072) 141)) from ⟨_,g,c,d,rfl,⟨P.out,hb.size⟩,r4.next B2,r5.next B2⟩);have BB:=hide B2;clear h6 r4 r5 B2 P;generalize rowF (segs (LN ((n:Int)/8192) (.slice sp n m) g c (fun _=>0) (fun _=>0))) 1072=R at *;go_wp2_with fail;exact zaQ _ rfl FACT.out BB.out
  ·obtain ⟨⟨b,g,c,d,h7,r⟩,_⟩:=hf;have RR:=hide r;simp only [h7];clear h7 r;go_wp2_with fail;exact zaQ _ rfl ⟨b,g,c,d,rfl,RR.out⟩ (Below.refl _ _)
 intro vals w1 b1 hall;obtain ⟨_,_,_,_,_,_,_,_,⟨b,g,c,d,h8,⟨p8,lb⟩,r8,v8⟩,_⟩:=hall;simp only [h8];have NE:=hide (show b≠c∧b≠d∧b≠g∧c≠g∧d≠g from ⟨zff p8 v8.1.1 (by decide),zff p8 v8.1.2.1 (by decide),zff p8 r8.1 (by decide),zff v8.1.1 r8.1 (by decide),zto v8.1.2.1 r8.1⟩);have c5:w1.cell? ⟨b,5,none⟩=some (.int .i64 0):=p8.get 4 rfl 1 (by decide) (by rw [(zkc _ _ _ _ _ _).off 4 (a:=4) rfl]) (by decide);have z5:=p8.frozen 5;have LB:=hide lb;have P8:=hide p8;have R8:=hide r8;have V8:=hide v8;have B1:=hide b1;clear h8 p8 r8 v8 b1 lb HM;clear e1;go_upto_region 3 with fail;refine under_name fun w2 hw2=>?_
 have P9:=hide (show HasF 141 w2 b 1072 (segs (LN ((n:Int)/8192) (.slice sp n m) g c (up (fun _=>0) 1 248) (rnTo 0))) by
  rw [hw2,zBi]
  exact zqK P8.out 4 rfl 1 (by decide) (by rw [(zkc _ _ _ _ _ _).off 4 (a:=4) rfl]) 248)
 have b2:But b w1 w2:=by rw [hw2];exact (But.refl b w1).set _ _
 have R9:=hide (show Ram0 w w2 g from ⟨b2.keep R8.out.1 (fun e=>NE.out.2.2.1 e.symm),R8.out.2⟩);have V9:=hide (show Vram0 w w2 c d from ⟨⟨b2.obj V8.out.1.1 (fun e=>NE.out.1 e.symm),b2.obj V8.out.1.2.1 (fun e=>NE.out.2.1 e.symm),V8.out.1.2.2⟩,V8.out.2⟩);have B9:=hide (bbut B1.out b2 LB.out (Nat.le_refl _));clear hw2 b2 P8 R8 V8 B1 c5 z5;go_wp2_with fail;go_loopw [4] (fun v w'=>∃k:Nat,k≤6∧v=.int .i64 k∧HasF 141 w' b 1072 (segs (LN ((n:Int)/8192) (.slice sp n m) g c (up (fun _=>0) 1 248) (rnTo k)))∧Ram0 w w' g∧Vram0 w w' c d∧Below w.heap.size w w') (fun v _=>6-(intOf v).toNat)
 case atStart=>exact ⟨0,Nat.zero_le _,rfl,P9.out,R9.out,V9.out,B9.out⟩
 case round=>
  clear P9 R9 V9 B9;obtain ⟨k,hk,rfl,h1,h2,h3,h4⟩:=hrel;have P1:=hide h1;have R1:=hide h2;have V1:=hide h3;have B1:=hide h4;clear h1 h2 h3 h4
  by_cases hlt:k<6
  ·have ck:wr.cell? ⟨b,811+k*40+38,none⟩=some (.int .i64 (rnTo k (42+k*40))):=P1.out.get 12 rfl (42+k*40) (by omega) (by rw [(zkc _ _ _ _ _ _).off 12 (a:=807) rfl];omega) (by omega);have zk:=P1.out.frozen (811+k*40+38);generalize rnTo k (42+k*40)=z at *;go_wp2_with fail;have b2:But b wr (wr.setCell ⟨b,811+k*40+38,none⟩ (.int .i64 1)):=(But.refl b wr).set _ _;refine ⟨⟨k+1,by omega,by go_num,?_,⟨b2.keep R1.out.1 (fun e=>NE.out.2.2.1 e.symm),R1.out.2⟩,⟨⟨b2.obj V1.out.1.1 (fun e=>NE.out.1 e.symm),b2.obj V1.out.1.2.1 (fun e=>NE.out.2.1 e.symm),V1.out.1.2.2⟩,V1.out.2⟩,bbut B1.out b2 LB.out (Nat.le_refl _)⟩,by simp [intOf];omega⟩;rw [←zqJ];exact zqK P1.out 12 rfl (42+k*40) (by omega) (by rw [(zkc _ _ _ _ _ _).off 12 (a:=807) rfl];omega) 1
  ·obtain rfl:k=6:=by omega
   go_wp2_with fail;go_ret;exact ⟨b,c,d,g,rfl,⟨P1.out,V1.out.1,R1.out.1,zkc _ _ _ _ _ _,rfl,rfl,NE.out⟩,⟨LB.out,V1.out.2.1,V1.out.2.2,R1.out.2⟩,B1.out⟩
end Go.Proofs.YtoijhhbiknhlnaaGreatDoor.D24
namespace Go.Proofs.YtoijhhbiknhlnaaGreatDoor.L24
set_option maxHeartbeats 4000000
set_option maxRecDepth 20000
open B4 C3 D24 G6 I11 J23 M5 P22 R15 T10 V12 W13
open Go.RowKit
set_option linter.unusedVariables false
def YP (P:Int) (sl:Value) (r c:Nat) (Z:Nat→Nat→Int):List (Nat×(Nat→Value)):=
 [(1,fun _=>Value.int .i64 P),(1,fun _=>Value.int .i64 (Z 7 0)),(1,fun _=>sl),(1,fun _=>.slice (some ⟨r,0,none⟩) 8192 8192),(8,iv (Z 9)),(21,iv (Z 0)),(1,fun _=>.pointer (some ⟨c,0,none⟩)),(256,iv (Z 2)),(1,fun _=>Value.int .i64 (Z 3 0)),(1,fun _=>.bool (isB (Z 4 0))),(1,fun _=>.bool (isB (Z 5 0))),(514,iv (Z 10)),(244,iv (Z 11)),(4,tvZ (Z 12)),(1,fun _=>Value.int .i64 (Z 13 0)),(1,fun _=>Value.int .i64 (Z 13 1)),(4,pvZ (Z 14)),(10,pcZ (Z 15)),(1,fun _=>Value.int .i64 (Z 16 0))]
def HasD (w:World) (b c d r:Nat) (P:Int) (sl:Value) (Z:Nat→Nat→Int):Prop:=HasY w b c d r (YP P sl r c Z) (Z 18) (Z 19 0) (Z 19 1) (Z 19 2) (Z 19 3) (Z 19 4) (Z 8)
theorem HasD.next {w w':World} {b c d r:Nat} {P:Int} {sl:Value} {Z:Nat→Nat→Int} (h:HasD w b c d r P sl Z) (k:Below w.heap.size w w'):HasD w' b c d r P sl Z:=HasY.next h k
theorem HasD.only {E:Nat→Prop} {w w':World} {b c d r:Nat} {P:Int} {sl:Value} {Z:Nat→Nat→Int} (h:HasD w b c d r P sl Z) (k:OnlyE E w w') (hb:¬E b) (hc:¬E c) (hd:¬E d) (hr:¬E r):HasD w' b c d r P sl Z:=by
 obtain ⟨q1,q2,q3,q4⟩:=h;exact ⟨k.obj q1 hb,⟨k.obj q2.1 hc,k.obj q2.2.1 hd,q2.2.2⟩,k.obj q3 hr,q4⟩
def padZ (K:Nat→Int) (k:Nat):Nat→Int:=fun j=>if j/2<k then (if j%2=0 then K (j/2) else b2i (j/2==2)) else 0
def Z0 (K:Nat→Int) (k:Nat):Nat→Nat→Int:=fun i=>if i=9 then fl0 else if i=11 then zcv else if i=15 then padZ K k else if i=16 then oneV 255 else if i=19 then (fun j=>if j=2 then 1 else 0) else if i=13 then twoV 0 0 else if i=17 then oneV 0 else fun _=>0
theorem zul (K:Nat→Int):padZ K 0=fun _=>0:=funext fun j=>by
 unfold padZ;rw [if_neg (by omega)]
theorem zBj:tvZ (fun _=>0)=t0C:=funext fun j=>by
 unfold tvZ tv t0C;rcases j with _|_|_|j<;>rfl
theorem zBk:pvZ (fun _=>0)=p0C:=funext fun j=>by
 unfold pvZ pv p0C;rcases j with _|_|_|j
 ·rfl
 ·rfl
 ·rfl
 ·rw [if_neg (by omega),if_neg (by omega),if_neg (by omega),if_neg (by omega)]
theorem zBl:pcZ (fun _=>0)=a0C:=funext fun j=>by
 unfold pcZ J23.pc a0C;rfl
theorem sv_0:sv 0 0=iv fun _=>0:=funext fun j=>by
 unfold sv iv;split<;>rfl
theorem xp_0 (K:Nat→Int) (v c:Nat):XP v c (Z0 K 0)=LB v c:=by
 show [(21,iv fun _=>0),(1,fun _=>Value.pointer (some ⟨v,0,none⟩)),(256,iv fun _=>0),(1,fun _=>.int .i64 0),(1,fun _=>.bool false),(1,fun _=>.bool false),(1,fun _=>.pointer (some ⟨c,0,none⟩)),(1,fun _=>.int .i64 0),(8192,bv fun _=>0),(8,iv fl0),(514,iv fun _=>0),(244,iv zcv),(4,tvZ fun _=>0),(2,sv 0 0),(4,pvZ fun _=>0),(10,pcZ (padZ K 0)),(1,fun _=>.int .i64 255),(1,fun _=>.int .i64 0)]=_;rw [zul,zBj,zBk,zBl,sv_0];rfl
theorem fl_up:up (fun _=>0) 1 248=fl0:=rfl
theorem ztp:D24.rnTo 6=zcv:=funext fun j=>by
 unfold D24.rnTo zcv zcQ
 by_cases h:42≤j∧(j-42)%40=0∧(j-42)/40<6
 ·rw [if_pos h,if_pos (by omega)]
 ·rw [if_neg h,if_neg (by omega)]
theorem yp_0 (K:Nat→Int) (P:Int) (sl:Value) (r c:Nat):YP P sl r c (Z0 K 0)=D24.LN P sl r c (up (fun _=>0) 1 248) (D24.rnTo 6):=by
 rw [ztp,fl_up];show [(1,fun _=>Value.int .i64 P),(1,fun _=>.int .i64 0),(1,fun _=>sl),(1,fun _=>.slice (some ⟨r,0,none⟩) 8192 8192),(8,iv fl0),(21,iv fun _=>0),(1,fun _=>.pointer (some ⟨c,0,none⟩)),(256,iv fun _=>0),(1,fun _=>.int .i64 0),(1,fun _=>.bool false),(1,fun _=>.bool false),(514,iv fun _=>0),(244,iv zcv),(4,tvZ fun _=>0),(1,fun _=>.int .i64 0),(1,fun _=>.int .i64 0),(4,pvZ fun _=>0),(10,pcZ (padZ K 0)),(1,fun _=>.int .i64 255)]=_;rw [zul,zBj,zBk,zBl];rfl
theorem set_0 (K:Nat→Int) (k:Nat):setZ (Z0 K k)=Z0 K k:=zjI _ rfl rfl
theorem gz_0 (K:Nat→Int) (k:Nat):∀i,GZ i (Z0 K k i)
 |0=>(show (0≤(0:Int)∧(0:Int)<32)∧∀i,i<20→0≤(0:Int)∧(0:Int)<65536 from ⟨by decide,fun _ _=>by decide⟩)
 |1=>trivial
 |2=>trivial
 |3=>(show 0≤(0:Int)∧(0:Int)<128 by decide)
 |4=>trivial
 |5=>trivial
 |6=>trivial
 |7=>trivial
 |8=>(show ∀j:Nat,0≤(0:Int)∧(0:Int)<256 from fun _=>by decide)
 |9=>trivial
 |10=>(show (0≤(0:Int)∧(0:Int)<512)∧∀j:Nat,0≤(0:Int)∧(0:Int)<512 from ⟨by decide,fun _=>by decide⟩)
 |11=>zrD
 |12=>(show okT 0 0 (isB 0) 0=true by decide)
 |13=>(show ((0≤(0:Int)∧(0:Int)<8)∧0≤(0:Int)∧(0:Int)<8)∧twoV 0 0=twoV 0 0 from ⟨by decide,rfl⟩)
 |14=>trivial
 |15=>trivial
 |16=>(show 0≤(255:Int)∧(255:Int)<256 by decide)
 |17=>(show (0≤(0:Int)∧(0:Int)≤8388608)∧oneV 0=oneV 0 from ⟨by decide,rfl⟩)
 |18=>(show ∀j:Nat,0≤(0:Int)∧(0:Int)<65536 from fun _=>by decide)
 |19=>(show (0≤(0:Int)∧(0:Int)<65536)∧(0≤(0:Int)∧(0:Int)<65536)∧(1≤(1:Int)∧(1:Int)<65536)∧(0≤(0:Int)∧(0:Int)<256)∧(0≤(0:Int)∧(0:Int)<65536) by decide)
 |20=>(show (∀k:Nat,k<5→0≤(0:Int)∧(0:Int)<256)∧0≤(0:Int)∧(0:Int)<65536 from ⟨fun _ _=>by decide,by decide⟩)
 |n+21=>trivial
theorem zqL (K:Nat→Int) (k:Nat):padZ K (k+1)=fun j=>if j=2*k then K k else if j=2*k+1 then b2i (k==2) else padZ K k j:=funext fun j=>by
 unfold padZ
 by_cases e1:j=2*k
 ·subst e1;rw [if_pos rfl,if_pos (by omega),if_pos (by omega),show 2*k/2=k by omega]
 ·rw [if_neg e1]
  by_cases e2:j=2*k+1
  ·subst e2;rw [if_pos rfl,if_pos (by omega),if_neg (by omega),show (2*k+1)/2=k by omega]
  ·rw [if_neg e2]
   by_cases e3:j/2<k
   ·rw [if_pos e3,if_pos (by omega)]
   ·rw [if_neg e3,if_neg (by omega)]
end Go.Proofs.YtoijhhbiknhlnaaGreatDoor.L24
