/- Texts put together. -/
import Derived.Test.YtoijhhbiknhlnaaGreatDoorCpuSpeedsJ48
import Derived.Test.YtoijhhbiknhlnaaGreatDoorCpuSpeedsJ46
import Derived.Test.YtoijhhbiknhlnaaGreatDoorCpuSpeedsJ24
import Derived.Test.YtoijhhbiknhlnaaGreatDoorCpuSpeedsJ15
import Derived.Test.YtoijhhbiknhlnaaGreatDoorCpuSpeedsJ11
import Derived.Test.YtoijhhbiknhlnaaGreatDoorCpuSpeedsJ02
import Derived.Test.YtoijhhbiknhlnaaGreatDoorCpuSpeedsJ38
namespace Go.Proofs.YtoijhhbiknhlnaaGreatDoor.L25
set_option maxRecDepth 20000
open A2 B4 C3 D24 G6 I11 J23 K9 L24 M5 N8 O7 P22 R15 T10 V12 W13
open Go.RowKit
set_option linter.unusedVariables false
theorem zB:zad 0:=⟨by decide,by decide⟩
theorem mB:zad 255:=⟨by decide,by decide⟩
def Yp:Nat→Nat→Int:=Z0 (keyF 0 0 0 0 0) 5
theorem zib:Calm Yp:=⟨rfl,set_0 _ _,rfl,rfl⟩
theorem zBm {Y:Nat→Nat→Int} {M R:Nat→Int} {f l c:Int} (k:Nat) (hk:k<20):cz Y M R f l c k=upZ Y 8 M k:=by
 unfold cz;rw [zbc _ _ _ _ (by omega),zbc _ _ _ _ (by omega),zbc _ _ _ _ (by omega),zbc _ _ _ _ (by omega)]
theorem zwR {a x y s p pc:Int} (h0:zad a) (h1:zad x) (h2:zad y) (h3:zad s) (h4:zad p) (h5:0≤pc∧pc<65536):GZ 20 (rg a x y s p pc):=by
 rw [←zqz h0 h1 h2 h3 h4 h5];exact zjZ _
theorem zlZ {w:World} {b v c d n m:Nat} {bs:List Int} {C D:Nat→Int} (h:HasP w b v c d bs (putZ C D n m)) (ct:CT w) (hl:bs.length=16384) (gb:8≤b∧8≤v) (hM:∀j,0≤putM C D n m j∧putM C D n m j<256):HasC w b v c d bs Yp (putM C D n m):=
 ⟨rg 0 0 0 0 0 0,0,0,0,zlV h (fun k hk=>zBm k hk),ct,
  zaR (zaR (zaR (zaR (zaR (gz_0 _ _) 8 _ hM) 20 _ (zwR zB zB zB zB zB (by decide))) 21 _ trivial) 22 _ trivial) 23 _ trivial,gb,by rw [hl];rfl,by rw [hl];decide⟩
theorem zqO {w:World} {sc sd:Option Addr} {lc ld:Nat} {C D:Nat→Int} (hC:SlB w sc lc C) (hD:SlB w sd ld D) (j:Nat):0≤putM C D lc ld j∧putM C D lc ld j<256:=by
 unfold putM
 by_cases h1:j<ld
 ·rw [if_pos h1];obtain ⟨_,_,_,_,_,a,b⟩:=hD.2 j h1;exact ⟨a,b⟩
 rw [if_neg h1]
 by_cases h2:1024≤j∧j<1024+lc
 ·rw [if_pos h2];obtain ⟨_,_,_,_,_,a,b⟩:=hC.2 (j-1024) (by omega);exact ⟨a,b⟩
 ·rw [if_neg h2]
  decide
theorem zki {C D:Nat→Int} {sc sd:Option Addr} {lc ld cc cd:Nat} {w:World} (hL:Tabs w∧HasErr w∧CT w) (hC:SlB w sc lc C) (hD:SlB w sd ld D) (hlc:lc≤200) (hld:ld≤256):
  Calls Tryz.prog 16 #[.slice sc lc cc,.slice sd ld cd] w fun e w'=>∃b v c d bs,e=Ending.returned (.tuple #[.pointer (some ⟨b,0,none⟩),.agg #[.int .i64 0,.int .i64 0,.int .i64 0,.int .i64 255,.int .i64 0,.int .i64 9216,.bool false,.int .i64 0]])∧HasC w' b v c d bs Yp (putM C D lc ld)∧(w.heap.size≤b∧w.heap.size≤v)∧Below w.heap.size w w':=by
 refine (ztq hL.1 hL.2.1 hC hD hlc hld).mono ?_;rintro e w' ⟨b,v,c,d,bs,r,hl,hp,hb,bw⟩;have sz:=zka hL;exact ⟨b,v,c,d,bs,r,zlZ hp (hL.2.2.next bw) hl (by omega) (zqO hC hD),hb,bw⟩
theorem zja {w:World} {g:Nat} {l:List Int} {t:TypeId} {fr:Nat×Nat} (h:w.heap[g]? = some (.cells (l.map (Value.int .u8)).toArray t fr)) (hl:l.length≤9223372036854775807) (hb:∀x ∈ l,0≤x∧x<256):SlB w (some ⟨g,0,none⟩) l.length (fun i=>l.getD i 0):=by
 refine ⟨hl,fun i hi=>⟨g,0,rfl,?_,lt_of_block h,?_⟩⟩
 ·rw [Nat.zero_add];refine (cell_of_row w g i _ _ _ h).trans ?_;simp [hi]
 ·have e:l.getD i 0=l[i]:=by simp [hi]
  show 0≤l.getD i 0∧l.getD i 0<256;rw [e];exact hb _ (List.getElem_mem hi)
theorem zeZ (w:World) (C:Nat→Int):SlB w none 0 C:=⟨by decide,fun i hi=>absurd hi (Nat.not_lt_zero i)⟩
theorem HasC.but {w:World} {b v c d:Nat} {bs:List Int} {Y:Nat→Nat→Int} {M:Nat→Int} (h:HasC w b v c d bs Y M) {w':World} {g:Nat} (k:OnlyE (fun i=>i=g) w w') (hn:g≠b∧g≠v∧g≠c∧g≠d∧8≤g):HasC w' b v c d bs Y M:=by
 obtain ⟨R0,f0,l0,c0,h⟩:=h;exact ⟨R0,f0,l0,c0,h.but k hn⟩
def St (W w:World) (b v c d g:Nat) (bs:List Int) (M:Nat→Int) (row:Array Value):Prop:=
 HasC w b v c d bs Yp M∧w.heap[g]? = some (.cells row 58 (0,0))∧Below W.heap.size W w∧(b<g∧v<g∧c<g∧d<g∧8≤g∧W.heap.size≤b∧W.heap.size≤v)
theorem zgw {W w:World} {b v c d:Nat} {bs:List Int} {M:Nat→Int} (h:HasC w b v c d bs Yp M) (hb:Below W.heap.size W w) (lb:W.heap.size≤b∧W.heap.size≤v) (row:Array Value):St W (w.alloc (.cells row 58)) b v c d w.heap.size bs M row:=by
 have k:Below w.heap.size w (w.alloc (.cells row 58)):=(Below.refl _ w).alloc (Nat.le_refl _) _;have hh:=h;obtain ⟨_,_,_,_,m⟩:=hh;have L:=m.lts;have s:=m.size;exact ⟨h.next k,heap_alloc_new _ _,zar hb k,L.1,L.2.1,L.2.2.1,L.2.2.2,s,lb.1,lb.2⟩
def ztr (bs:List Int) (Y:Nat→Nat→Int) (M:Nat→Int) (a x y s p:Int) (q:Nat) (f:Bool) (l:Int) (Y':Nat→Nat→Int) (M':Nat→Int) (a' x' y' s' p':Int) (q':Nat) (f':Bool) (l' cy:Int):Prop:=
 ∀(w:World) (b v c d:Nat),HasC w b v c d bs Y M→Calls Tryz.prog 13 #[.agg #[.int .i64 a,.int .i64 x,.int .i64 y,.int .i64 s,.int .i64 p,.int .i64 (8192+(q:Int)),.bool f,.int .i64 l],.pointer (some ⟨b,0,none⟩)] w fun e w'=>e=Ending.returned (.tuple #[.agg #[.int .i64 a',.int .i64 x',.int .i64 y',.int .i64 s',.int .i64 p',.int .i64 (8192+(q':Int)),.bool f',.int .i64 l'],.int .i64 cy])∧HasC w' b v c d bs Y' M'∧OnlyE (EX b v) w w'
theorem zts {Y:Nat→Nat→Int} {M:Nat→Int} {a' x' y' s' p' l' cy:Int} {q':Nat} {f':Bool}:zgm (cz Y M (rg a' x' y' s' p' (8192+(q':Int))) (b2i f') l' cy)=#[.int .i64 a',.int .i64 x',.int .i64 y',.int .i64 s',.int .i64 p',.int .i64 (8192+(q':Int)),.bool f',.int .i64 l']:=by
 unfold zgm;rw [zqA,cz_21,cz_22];show #[_,_,_,_,_,_,Value.bool (isB (b2i f')),_]=_;rw [zgW];rfl
def Quiet (Y:Nat→Nat→Int) (p:Int):Prop:=Y 9 1=248∧setZ Y=Y∧∃px,∀w,HasVec w→Calls Tryz.prog 20 #[.agg (rowF (sv (Y 13 0) (Y 13 1)) 2),.int .i64 p] w fun e w'=>e=Ending.returned (.tuple #[.int .i64 px,.bool false])∧Below w.heap.size w w'
theorem zic {Y:Nat→Nat→Int} (h:Calm Y) (p:Int):Quiet Y p:=⟨h.1,h.2.1,0,fun w hw=>by rw [h.2.2.1,h.2.2.2];exact zkb _ w hw⟩
theorem zma {bs:List Int} {Y Y':Nat→Nat→Int} {M M':Nat→Int} {a x y s p a' x' y' s' p' l l' cy:Int} {q q' n:Nat} {f f':Bool} (hY:Quiet Y p) (ha:zad a) (hx:zad x) (hy:zad y) (hs:zad s) (hp:zad p) (hq:q+7≤8192) (hN:M q=(n:Int)) (hn:n<256) (hm:zea (zbH n)=false) {ZZ:Nat→Nat→Int}
  (hdo:DoZ bs (zcW n) (iC M (rg a x y s p (8192+(q:Int))) q n) (beh M (q+1) (zce n-1).toNat) (hasF p 32) (cz Y M (rg a x y s (anP p 32) (8192+(q:Int)+zce n)) (b2i f) l (zdZ n)) ZZ)
  (hz:ZZ=cz Y' M' (rg a' x' y' s' p' (8192+(q':Int))) (b2i f') l' cy):ztr bs Y M a x y s p q f l Y' M' a' x' y' s' p' q' f' l' cy:=by
 intro w b v c d ⟨R0,f0,l0,c0,h⟩;obtain ⟨h9,hs1,px,hpk⟩:=hY
 have k:=zwO h h9 hs1 px (R:=rg a x y s p (8192+(q:Int))) (zqz ha hx hy hs hp (by omega)) f l hpk (q:=q) (n:=n) rfl hq hN hn hm (ZZ:=ZZ) (by
  rw [zBe,zBd]
  exact hdo)
 subst hz;rw [zts] at k;exact k.mono fun e w' ⟨r,m,o⟩=>⟨r,⟨_,_,_,_,m⟩,o⟩
def SY (W w:World) (b v c d g:Nat) (bs:List Int) (Y:Nat→Nat→Int) (M:Nat→Int) (row:Array Value):Prop:=
 HasC w b v c d bs Y M∧w.heap[g]? = some (.cells row 58 (0,0))∧Below W.heap.size W w∧(b<g∧v<g∧c<g∧d<g∧8≤g∧W.heap.size≤b∧W.heap.size≤v)
theorem ztt {W w:World} {b v c d g:Nat} {bs:List Int} {M:Nat→Int} {row:Array Value} (h:St W w b v c d g bs M row):SY W w b v c d g bs Yp M row:=h
theorem zmb {W w:World} {b v c d g:Nat} {bs:List Int} {Y:Nat→Nat→Int} {M:Nat→Int} {row:Array Value} (h:SY W w b v c d g bs Y M row):g<w.heap.size:=lt_of_block h.2.1
theorem zbx {W w:World} {b v c d g:Nat} {bs:List Int} {Y:Nat→Nat→Int} {M:Nat→Int} {row:Array Value} (h:SY W w b v c d g bs Y M row) (i:Nat) {x:Value} (e:row[i]? = some x):w.cell? ⟨g,i,none⟩=some x:=(cell_of_row w g i _ _ _ h.2.1).trans e
theorem zgx {W w:World} {b v c d g:Nat} {bs:List Int} {Y:Nat→Nat→Int} {M:Nat→Int} {row:Array Value} (h:SY W w b v c d g bs Y M row):Below W.heap.size W w:=h.2.2.1
theorem zjb {W w:World} {b v c d g:Nat} {bs:List Int} {Y:Nat→Nat→Int} {M:Nat→Int} {row:Array Value} (h:SY W w b v c d g bs Y M row) {w':World} (k:Below w.heap.size w w'):SY W w' b v c d g bs Y M row:=by
 obtain ⟨h1,h2,h3,r⟩:=h;exact ⟨h1.next k,(k.block g (lt_of_block h2)).trans h2,zar h3 k,r⟩
theorem zwS {W w:World} {b v c d g:Nat} {bs:List Int} {Y:Nat→Nat→Int} {M:Nat→Int} {row:Array Value} (h:SY W w b v c d g bs Y M row) {w':World} {Y':Nat→Nat→Int} {M':Nat→Int} (p:HasC w' b v c d bs Y' M') (k:OnlyE (EX b v) w w'):SY W w' b v c d g bs Y' M' row:=by
 obtain ⟨h1,h2,h3,a1,a2,a3,a4,a5,a6,a7⟩:=h;exact ⟨p,k.obj h2 (fun e=>by rcases e with e|e<;>omega),h3.trans (k.below (fun i e=>by rcases e with rfl|rfl<;>omega) h3.size),a1,a2,a3,a4,a5,a6,a7⟩
theorem zBn {W w:World} {b v c d g:Nat} {bs:List Int} {Y:Nat→Nat→Int} {M:Nat→Int} {row:Array Value} (h:SY W w b v c d g bs Y M row) (row':Array Value):SY W (w.setRow g row') b v c d g bs Y M row':=by
 obtain ⟨h1,h2,h3,a1,a2,a3,a4,a5,a6,a7⟩:=h;have k4:OnlyE (fun i=>i=g) w (w.setRow g row'):=⟨rfl,rfl,rfl,by simp [World.setRow],fun i hi hE=>setRow_other w g i _ hE⟩
 exact ⟨h1.but k4 ⟨by omega,by omega,by omega,by omega,a5⟩,setRow_heap _ _ _ _ _ _ h2,below_setRow h3 (by omega) _,a1,a2,a3,a4,a5,a6,a7⟩
theorem zet {W w:World} {b v c d g:Nat} {bs:List Int} {Y Y':Nat→Nat→Int} {M M':Nat→Int} {row:Array Value} {a x y s p l a' x' y' s' p' l' cy:Int} {q q':Nat} {f f':Bool} (h:SY W w b v c d g bs Y M row) (k:ztr bs Y M a x y s p q f l Y' M' a' x' y' s' p' q' f' l' cy):
  Calls Tryz.prog 13 #[.agg #[.int .i64 a,.int .i64 x,.int .i64 y,.int .i64 s,.int .i64 p,.int .i64 (8192+(q:Int)),.bool f,.int .i64 l],.pointer (some ⟨b,0,none⟩)] w fun e w'=>e=Ending.returned (.tuple #[.agg #[.int .i64 a',.int .i64 x',.int .i64 y',.int .i64 s',.int .i64 p',.int .i64 (8192+(q':Int)),.bool f',.int .i64 l'],.int .i64 cy])∧SY W w' b v c d g bs Y' M' row:=
 (k w b v c d h.1).mono fun e w' ⟨r,hc,o⟩=>⟨r,zwS h hc o⟩
theorem zgy {ops:Array Oper} {rest:List Oper} {o:Oper} {a:Act} {w:World} {Q:Exit→Act→World→Prop} (hgd:o.guard=none) (x y:Operand) (ho:o.op=.store 58 x y) {W:World} {b v c d g:Nat} {bs:List Int} {Y:Nat→Nat→Int} {M:Nat→Int} {row:Array Value} (h:SY W w b v c d g bs Y M row) (h8:row.size=8) (hx:a.eval x=.pointer (some ⟨g,0,none⟩)) (row':Array Value) (hy:a.eval y=.agg row') (h8':row'.size=8) (h1:row'.all (·.oneCell')=true)
  (hK:∀w',SY W w' b v c d g bs Y M row'→wpList Tryz.prog ops Q rest (a.put o.dst undef) w'):wpList Tryz.prog ops Q (o::rest) a w:=
 wpList_store_row hgd 58 x y ho g row' hx hy 58 row h.2.1 (by rw [h8'];kernel_rfl) (by rw [h8,h8']) h1 (hK _ (zBn h row'))
theorem zjc {ops:Array Oper} {rest:List Oper} {o:Oper} {a:Act} {w:World} {Q:Exit→Act→World→Prop} (hgd:o.guard=none) (x:Operand) (ho:o.op=.load 58 x) {W:World} {b v c d g:Nat} {bs:List Int} {Y:Nat→Nat→Int} {M:Nat→Int} {row:Array Value} (h:SY W w b v c d g bs Y M row) (h8:row.size=8) (hx:a.eval x=.pointer (some ⟨g,0,none⟩))
  (hK:wpList Tryz.prog ops Q rest (a.put o.dst (.agg row)) w):wpList Tryz.prog ops Q (o::rest) a w:=
 wpList_load_row hgd 58 x ho g hx 58 _ (0,0) _ h.2.1 Tryz.underlying58 rfl (by rw [h8];kernel_rfl) hK
end Go.Proofs.YtoijhhbiknhlnaaGreatDoor.L25
namespace Go.Proofs.YtoijhhbiknhlnaaGreatDoor
set_option maxRecDepth 20000
open A2 B4 C3 D24 G6 I11 J23 K9 L24 L25 M5 N8 O7 P22 R15 T10 V12 W13
open Go.RowKit
set_option linter.unusedVariables false
theorem zgz {W w:World} {b v c d g:Nat} {bs:List Int} {Y:Nat→Nat→Int} {M:Nat→Int} {row:Array Value} (h:SY W w b v c d g bs Y M row) (row':Array Value):SY W (w.alloc (.cells row' 58)) b v c d w.heap.size bs Y M row':=by
 have k:Below w.heap.size w (w.alloc (.cells row' 58)):=(Below.refl _ w).alloc (Nat.le_refl _) _;obtain ⟨h1,h2,h3,a1,a2,a3,a4,a5,a6,a7⟩:=h;have g1:=lt_of_block h2;exact ⟨h1.next k,heap_alloc_new _ _,zar h3 k,by omega,by omega,by omega,by omega,by omega,a6,a7⟩
theorem zjd {ops:Array Oper} {rest:List Oper} {o:Oper} {a:Act} {w:World} {Q:Exit→Act→World→Prop} (hgd:o.guard=none) (x:Operand) (ho:o.op=.load 58 x) (h:wpList Tryz.prog ops Q (o::rest) a w):wpList Tryz.prog ops Q (o::rest) a w:=h
open B4 C3 G6 I11 K9 L24 M5 P22 R15 T10 W13
theorem zdx (a x y s p q:Int) (f:Bool) (l n:Int) (hn:0≤n∧n<16777216) (w:World):Calls Tryz.prog 15 #[.agg #[.int .i64 a,.int .i64 x,.int .i64 y,.int .i64 s,.int .i64 p,.int .i64 q,.bool f,.int .i64 l],.int .i64 n] w fun e w'=>e=Ending.returned (.int .i64 (if f=true then 3*n else 12*n))∧Below w.heap.size w w':=by
 cases f
 ·go_enter Tryz.func15,Tryz.ntmps15;go_wp2;go_ret;exact ⟨zay (by simp),(Below.refl _ _).alloc (Nat.le_refl _) _⟩
 ·go_enter Tryz.func15,Tryz.ntmps15;go_wp2;go_ret;exact ⟨zay (by simp),(Below.refl _ _).alloc (Nat.le_refl _) _⟩
theorem zaL {w w':World} {g:Nat} {cs:Array Value} {t:TypeId} (k:Below w.heap.size w w') (h:w.heap[g]? = some (.cells cs t (0,0))) (i:Nat):w'.cell? ⟨g,i,none⟩=cs[i]? :=cell_of_row w' g i _ _ _ ((k.block g (lt_of_block h)).trans h)
end Go.Proofs.YtoijhhbiknhlnaaGreatDoor
