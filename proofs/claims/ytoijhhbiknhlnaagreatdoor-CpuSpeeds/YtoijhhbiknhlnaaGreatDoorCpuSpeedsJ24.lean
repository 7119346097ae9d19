/- Texts put together. -/
import Derived.Test.YtoijhhbiknhlnaaGreatDoorCpuSpeedsJ23
import Derived.Test.YtoijhhbiknhlnaaGreatDoorCpuSpeedsJ11
import Derived.Test.YtoijhhbiknhlnaaGreatDoorCpuSpeedsJ21
namespace Go.Proofs.YtoijhhbiknhlnaaGreatDoor.L25
set_option maxRecDepth 20000
open B4 C3 G6 I11 J23 L24 M5 P22 R15 T10 V12 W13
open Go.RowKit
set_option linter.unusedVariables false
def padR (Z:Nat→Nat→Int):Int:=J23.rdOf (isB (Z 14 0)) (isB (Z 14 2)) (Z 14 3) (fun n=>Z 15 (2*n)) (fun n=>isB (Z 15 (2*n+1))) false
def rdV (bs:List Int) (Z:Nat→Nat→Int) (p:Int):Int:=
 if zaI p=0 then romB bs Z p else if zaI p=1 then Z 8 (p%8192).toNat
 else if zaI p=2 then (if atW p=0 then Z 3 0 else if atW p=2 then Z 19 4%256 else if atW p=3 then Z 19 4/256%256 else 0)
 else if zaI p=3 then vceR (Z 10) (atW p) else if zaI p=4 then Z 16 0
 else if zaI p=5 then Z 16 0/128*128+setZ Z 12 1 else if zaI p=6 then padR Z
 else if zaI p=7 then (if atW p<2 then Z 16 0 else Z 16 0/8*8+zcA (setZ Z 13 0) (setZ Z 13 1) (atW p)) else 255
def rdZ (Z:Nat→Nat→Int) (p:Int):Nat→Nat→Int:=
 if zaI p=2 then (if atW p=0 then zmU Z else if atW p=3 then zmW Z else Z)
 else if zaI p=3 then upZ Z 10 (vceN (Z 10) (atW p))
 else if zaI p=5 then zcw (setZ Z) (Z 16 0/128*128+setZ Z 12 1) else if zaI p=6 then zcw Z (padR Z)
 else if zaI p=7 then (if atW p<2 then Z else zcw (setZ Z) (Z 16 0/8*8+zcA (setZ Z 13 0) (setZ Z 13 1) (atW p))) else Z
def wrZ (Z:Nat→Nat→Int) (p y:Int):Nat→Nat→Int:=
 if zaI p=1 then upZ Z 8 (up (Z 8) (p%8192).toNat y) else if zaI p=2 then effZ (zgk Z (atW p) y) (effW (Z 0) (atW p)) y
 else if zaI p=3 then upZ Z 10 (vceW (Z 10) (atW p) y) else if zaI p=4 then zcw (upZ Z 11 (P22.wrF (Z 11) (atW p) y)) y
 else if zaI p=5 then zcw (upZ (setZ Z) 12 (timW (setZ Z 12) (atW p) y)) y else if zaI p=6 then zcw (upZ Z 14 (padW (Z 14) y)) y
 else if zaI p=7 then zcw (upZ (setZ Z) 13 (twoV (irqM (setZ Z 13 0) (setZ Z 13 1) (atW p) y) (irqL (setZ Z 13 0) (setZ Z 13 1) (atW p) y))) y else Z
theorem zvo {Z:Nat→Nat→Int} (h:∀k,GZ k (Z k)) (b v c d:Nat) (bs:List Int) (hn:zdh ((bs.length/8192:Nat):Int)=true) (p:Int):∃x Z',rdV bs Z p=x∧rdZ Z p=Z'∧(∀k,GZ k (Z' k))∧Z' 17 0≤Z 17 0∧(∀w,HasP w b v c d bs Z→Calls Tryz.prog 28 #[.pointer (some ⟨b,0,none⟩),.int .i64 p] w fun e w'=>e=Ending.returned (.int .i64 x)∧HasP w' b v c d bs Z'∧OnlyE (EX b v) w w'):=by
 have g:=zkH h;have hs:=zfq h;have l0:(0:Int)≤Z 17 0:=(h 17).1.1;have h16:=h 16;rcases zha p with ⟨p0,p1,hk⟩|⟨p0,p1,hk⟩|hk|hk|hk|hk|hk|hk|hk
 ·exact ⟨romB bs Z p,Z,by simp [rdV,hk],by simp [rdZ,hk],h,Int.le_refl _,fun w hP=>p_rom hP g p hn p0 p1⟩
 ·exact ⟨Z 8 (p%8192).toNat,Z,by simp [rdV,hk],by simp [rdZ,hk],h,Int.le_refl _,fun w hP=>p_ram hP g p p0 p1⟩
 ·by_cases a0:atW p=0
  ·exact ⟨Z 3 0,zmU Z,by simp [rdV,hk,a0],by simp [rdZ,hk,a0],zpt h,Int.le_refl _,fun w hP=>zso hP g p hk a0⟩
  by_cases a2:atW p=2
  ·exact ⟨Z 19 4%256,Z,by simp [rdV,hk,a2],by simp [rdZ,hk,a2],h,Int.le_refl _,fun w hP=>p_low hP g p hk a2⟩
  by_cases a3:atW p=3
  ·exact ⟨Z 19 4/256%256,zmW Z,by simp [rdV,hk,a3],by simp [rdZ,hk,a3],zpu h,Int.le_refl _,fun w hP=>zyE hP g p hk a3⟩
  ·exact ⟨0,Z,by simp [rdV,hk,a0,a2,a3],by simp [rdZ,hk,a0,a3],h,Int.le_refl _,fun w hP=>zsp hP g p hk a0 a2 a3⟩
 ·exact ⟨vceR (Z 10) (atW p),upZ Z 10 (vceN (Z 10) (atW p)),by simp [rdV,hk],by simp [rdZ,hk],zpv h _,Int.le_refl _,fun w hP=>zyF hP g p hk⟩
 ·exact ⟨Z 16 0,Z,by simp [rdV,hk],by simp [rdZ,hk],h,Int.le_refl _,fun w hP=>zyC hP g p hk⟩
 ·have o:=zfm (hs 12);exact ⟨Z 16 0/128*128+setZ Z 12 1,zcw (setZ Z) (Z 16 0/128*128+setZ Z 12 1),by simp [rdV,hk],by simp [rdZ,hk],zdn hs _ (by have:=h16.1;omega) (by have:=h16.2;omega),l0,fun w hP=>zvk hP g p hk o.2.2.1 (by omega)⟩
 ·have r0:=J23.preOf_in (isB (Z 14 0)) (isB (Z 14 2)) (Z 14 3) (fun n=>Z 15 (2*n)) (fun n=>isB (Z 15 (2*n+1)));exact ⟨padR Z,zcw Z (padR Z),by simp [rdV,hk],by simp [rdZ,hk],zdn h _ (by unfold padR J23.rdOf;simp;omega) (by unfold padR J23.rdOf;simp;omega),Int.le_refl _,fun w hP=>p_pad hP g p hk⟩
 ·by_cases ha:atW p<2
  ·exact ⟨Z 16 0,Z,by simp [rdV,hk,ha],by simp [rdZ,hk,ha],h,Int.le_refl _,fun w hP=>zyD hP g p hk ha⟩
  ·have a4:=zyS hk;have hr:0≤zcA (setZ Z 13 0) (setZ Z 13 1) (atW p)∧zcA (setZ Z 13 0) (setZ Z 13 1) (atW p)<8:=by
    unfold zcA;split
    ·omega
    ·split<;>omega
   exact ⟨Z 16 0/8*8+zcA (setZ Z 13 0) (setZ Z 13 1) (atW p),zcw (setZ Z) (Z 16 0/8*8+zcA (setZ Z 13 0) (setZ Z 13 1) (atW p)),by simp [rdV,hk,ha],by simp [rdZ,hk,ha],zdn hs _ (by have:=h16.1;omega) (by have:=h16.2;omega),l0,fun w hP=>p_irq hP g p hk (by omega)⟩
 ·exact ⟨255,Z,by simp [rdV,hk],by simp [rdZ,hk],h,Int.le_refl _,fun w hP=>ztY hP g p hk⟩
theorem zyU (Z:Nat→Nat→Int) (a y e:Int):effZ (zgk Z a y) e y 17=Z 17:=by
 unfold effZ;split
 ·rfl
 split
 ·rfl
 split
 ·rfl
 split
 ·rfl
 split
 ·rfl
 split
 ·rfl
 split<;>rfl
theorem zvp {Z:Nat→Nat→Int} (h:∀k,GZ k (Z k)) (b v c d:Nat) (bs:List Int) (hn:bs.length/8192≠320) (p n y:Int) (hy:n%256=y):∃Z',wrZ Z p y=Z'∧(∀k,GZ k (Z' k))∧Z' 17 0≤Z 17 0∧(∀w,HasP w b v c d bs Z→Calls Tryz.prog 62 #[.pointer (some ⟨b,0,none⟩),.int .i64 p,.int .i64 n] w fun e w'=>e=Ending.returned (.tuple #[])∧HasP w' b v c d bs Z'∧OnlyE (EX b v) w w'):=by
 have g:=zkH h;have hs:=zfq h;have l0:(0:Int)≤Z 17 0:=(h 17).1.1;have y0:0≤y∧y<256:=by omega
 rcases zha p with ⟨p0,p1,hk⟩|⟨p0,p1,hk⟩|hk|hk|hk|hk|hk|hk|hk
 ·exact ⟨Z,by simp [wrZ,hk],h,Int.le_refl _,fun w hP=>zyG hP g p n y hy p0 p1 hn⟩
 ·refine ⟨upZ Z 8 (up (Z 8) (p%8192).toNat y),by simp [wrZ,hk],zaR h 8 _ (fun j=>?_),Int.le_refl _,fun w hP=>zyH hP g p n y hy p0 p1⟩;unfold up;split
  ·exact y0
  ·exact h 8 j
 ·have gd:=(zpy h (atW p) y).2;exact ⟨effZ (zgk Z (atW p) y) (effW (Z 0) (atW p)) y,by simp [wrZ,hk],zsA (zpz h _ _) _ y y0.1 y0.2,by rw [zyU];exact Int.le_refl _,fun w hP=>zyQ hP g p n y hy hk gd⟩
 ·exact ⟨upZ Z 10 (vceW (Z 10) (atW p) y),by simp [wrZ,hk],zpw h _ y y0.1 y0.2,Int.le_refl _,fun w hP=>zyI hP g p n y hy hk⟩
 ·exact ⟨zcw (upZ Z 11 (P22.wrF (Z 11) (atW p) y)) y,by simp [wrZ,hk],zdn (zaR h 11 _ (P22.wr_ok (h 11) _ _)) y y0.1 y0.2,Int.le_refl _,fun w hP=>zyJ hP g p n y hy hk⟩
 ·exact ⟨zcw (upZ (setZ Z) 12 (timW (setZ Z 12) (atW p) y)) y,by simp [wrZ,hk],zdn (zsy hs _ _) y y0.1 y0.2,l0,fun w hP=>zss hP g p n y hy hk⟩
 ·exact ⟨zcw (upZ Z 14 (padW (Z 14) y)) y,by simp [wrZ,hk],zdn (zaR h 14 _ trivial) y y0.1 y0.2,Int.le_refl _,fun w hP=>zyK hP g p n y hy hk⟩
 ·exact ⟨zcw (upZ (setZ Z) 13 (twoV (irqM (setZ Z 13 0) (setZ Z 13 1) (atW p) y) (irqL (setZ Z 13 0) (setZ Z 13 1) (atW p) y))) y,by simp [wrZ,hk],zdn (zsz hs _ _) y y0.1 y0.2,l0,fun w hP=>zyL hP g p n y hy hk⟩
 ·exact ⟨Z,by simp [wrZ,hk],h,Int.le_refl _,fun w hP=>zvl hP g p n y hy hk⟩
theorem zyV {Z:Nat→Nat→Int} (h:∀k,GZ k (Z k)) (b v c d:Nat) (bs:List Int) (hn:zdh ((bs.length/8192:Nat):Int)=true) (p:Int) {x:Int} {Z':Nat→Nat→Int} (hx:rdV bs Z p=x) (hz:rdZ Z p=Z'):(∀k,GZ k (Z' k))∧Z' 17 0≤Z 17 0∧(∀w,HasP w b v c d bs Z→Calls Tryz.prog 28 #[.pointer (some ⟨b,0,none⟩),.int .i64 p] w fun e w'=>e=Ending.returned (.int .i64 x)∧HasP w' b v c d bs Z'∧OnlyE (EX b v) w w'):=by
 obtain ⟨x1,Z1,e1,e2,k⟩:=zvo h b v c d bs hn p;obtain rfl:x=x1:=hx.symm.trans e1;obtain rfl:Z'=Z1:=hz.symm.trans e2;exact k
theorem zlJ {Z:Nat→Nat→Int} (h:∀k,GZ k (Z k)) (b v c d:Nat) (bs:List Int) (hn:bs.length/8192≠320) (p n:Int) {Z':Nat→Nat→Int} (hz:wrZ Z p (n%256)=Z'):(∀k,GZ k (Z' k))∧Z' 17 0≤Z 17 0∧(∀w,HasP w b v c d bs Z→Calls Tryz.prog 62 #[.pointer (some ⟨b,0,none⟩),.int .i64 p,.int .i64 n] w fun e w'=>e=Ending.returned (.tuple #[])∧HasP w' b v c d bs Z'∧OnlyE (EX b v) w w'):=by
 obtain ⟨Z1,e2,k⟩:=zvp h b v c d bs hn p n _ rfl;obtain rfl:Z'=Z1:=hz.symm.trans e2;exact k
theorem zba (Z:Nat→Nat→Int) (i k:Nat) (f g:Nat→Int) (h:i≠k):upZ (upZ Z k g) i f=upZ (upZ Z i f) k g:=funext fun j=>by
 unfold upZ
 by_cases e1:j=i
 ·subst e1;rw [if_pos rfl,if_neg h,if_pos rfl]
 ·rw [if_neg e1,if_neg e1]
theorem zkI (Z:Nat→Nat→Int) (k:Nat) (f g:Nat→Int):upZ (upZ Z k g) k f=upZ Z k f:=funext fun j=>by
 unfold upZ
 by_cases e1:j=k
 ·rw [if_pos e1,if_pos e1]
 ·rw [if_neg e1,if_neg e1,if_neg e1]
theorem zeO {k:Nat} (hk:20≤k) (Z:Nat→Nat→Int) (g:Nat→Int) (j:Nat) (hj:j<20):upZ Z k g j=Z j:=zbc _ _ _ _ (by omega)
theorem zfr {k:Nat} (hk:20≤k) (Z:Nat→Nat→Int) (g:Nat→Int):setZ (upZ Z k g)=upZ (setZ Z) k g:=zfR _ _ _ (by omega)
theorem zvq {k:Nat} (hk:20≤k) (bs:List Int) (Z:Nat→Nat→Int) (g:Nat→Int) (p:Int):rdV bs (upZ Z k g) p=rdV bs Z p:=by
 have e:=zeO hk Z g;have s:∀j,j<20→setZ (upZ Z k g) j=setZ Z j:=fun j hj=>by rw [zfr hk];exact zeO hk _ g j hj
 unfold rdV romB padR;rw [e 3 (by decide),e 7 (by decide),e 8 (by decide),e 10 (by decide),e 14 (by decide),e 15 (by decide),e 16 (by decide),e 19 (by decide),s 12 (by decide),s 13 (by decide)]
theorem zvr {k:Nat} (hk:20≤k) (Z:Nat→Nat→Int) (g:Nat→Int) (p:Int):rdZ (upZ Z k g) p=upZ (rdZ Z p) k g:=by
 have e:=zeO hk Z g;have s:∀j,j<20→setZ (upZ Z k g) j=setZ Z j:=fun j hj=>by rw [zfr hk];exact zeO hk _ g j hj
 have ho:∀(Y:Nat→Nat→Int) (x:Int),zcw (upZ Y k g) x=upZ (zcw Y x) k g:=fun Y x=>zba _ _ _ _ _ (by omega)
 unfold rdZ;rw [show padR (upZ Z k g)=padR Z by unfold padR;rw [e 14 (by decide),e 15 (by decide)],e 10 (by decide),e 16 (by decide),s 12 (by decide),s 13 (by decide),zfr hk];split
 ·split
  ·unfold zmU;rw [e 13 (by decide),zba _ 3 k _ _ (by omega),zba _ 13 k _ _ (by omega)]
  split
  ·unfold zmW;rw [e 18 (by decide),e 19 (by decide),zba _ 19 k _ _ (by omega)]
  ·rfl
 split
 ·exact zba _ _ _ _ _ (by omega)
 split
 ·exact ho _ _
 split
 ·exact ho _ _
 split
 ·split
  ·rfl
  ·exact ho _ _
 ·rfl
theorem zvs {k:Nat} (hk:20≤k) (Z:Nat→Nat→Int) (g:Nat→Int) (p y:Int):wrZ (upZ Z k g) p y=upZ (wrZ Z p y) k g:=by
 have e:=zeO hk Z g;have s:∀j,j<20→setZ (upZ Z k g) j=setZ Z j:=fun j hj=>by rw [zfr hk];exact zeO hk _ g j hj
 have ho:∀(Y:Nat→Nat→Int) (x:Int),zcw (upZ Y k g) x=upZ (zcw Y x) k g:=fun Y x=>zba _ _ _ _ _ (by omega)
 have te:∀(Y:Nat→Nat→Int) (n:Int) (m:Bool),zkG (upZ Y k g) n m=upZ (zkG Y n m) k g:=fun Y n m=>by
  unfold zkG;rw [zeO hk Y g 3 (by decide),zeO hk Y g 13 (by decide),zba _ 3 k _ _ (by omega),zba _ 13 k _ _ (by omega)]
 have dr:∀(a:Int),zgk (upZ Z k g) a y=upZ (zgk Z a y) k g:=fun a=>by
  unfold zgk;rw [e 0 (by decide),e 5 (by decide),zba _ 0 k _ _ (by omega),zba _ 5 k _ _ (by omega)]
 have ef:∀(Y:Nat→Nat→Int) (x:Int),effZ (upZ Y k g) x y=upZ (effZ Y x y) k g:=fun Y x=>by
  have f:=zeO hk Y g;unfold effZ;rw [f 0 (by decide),f 18 (by decide),f 19 (by decide)];split
  ·exact zba _ _ _ _ _ (by omega)
  split
  ·exact zba _ _ _ _ _ (by omega)
  split
  ·exact zba _ _ _ _ _ (by omega)
  split
  ·rw [zba _ 18 k _ _ (by omega),zba _ 19 k _ _ (by omega)]
  split
  ·exact zba _ _ _ _ _ (by omega)
  split
  ·unfold zsn zpl;rw [f 0 (by decide),f 18 (by decide),zba _ 18 k _ _ (by omega),zba _ 0 k _ _ (by omega),te]
  split
  ·exact zba _ _ _ _ _ (by omega)
  ·rfl
 unfold wrZ;rw [e 8 (by decide),e 0 (by decide),e 10 (by decide),e 11 (by decide),e 14 (by decide),s 12 (by decide),s 13 (by decide),zfr hk,dr,ef];split
 ·exact zba _ _ _ _ _ (by omega)
 split
 ·rfl
 split
 ·exact zba _ _ _ _ _ (by omega)
 split
 ·rw [zba _ 11 k _ _ (by omega),ho]
 split
 ·rw [zba _ 12 k _ _ (by omega),ho]
 split
 ·rw [zba _ 14 k _ _ (by omega),ho]
 split
 ·rw [zba _ 13 k _ _ (by omega),ho]
 ·rfl
theorem zfs {k:Nat} (hk:20≤k) (Z:Nat→Nat→Int) (p:Int):rdZ Z p k=Z k:=by
 have q:=congrFun (zvr hk Z (Z k) p) k;rw [zhP,zdd] at q;exact q
theorem zbC {k:Nat} (hk:20≤k) (Z:Nat→Nat→Int) (p y:Int):wrZ Z p y k=Z k:=by
 have q:=congrFun (zvs hk Z (Z k) p y) k;rw [zhP,zdd] at q;exact q
theorem zvt {k:Nat} (hk:k=7∨k=8∨k=9) (Z:Nat→Nat→Int) (p:Int):rdZ Z p k=Z k:=by
 have q:∀(Y:Nat→Nat→Int) (j:Nat) (g:Nat→Int),j≠7→j≠8→j≠9→upZ Y j g k=Y k:=fun Y j g h1 h2 h3=>zbc _ _ _ _ (by omega)
 have qs:setZ Z k=Z k:=zpk Z k (by omega);unfold rdZ zmU zmW zcw;split
 ·split
  ·rw [q _ 13 _ (by decide) (by decide) (by decide),q _ 3 _ (by decide) (by decide) (by decide)]
  split
  ·rw [q _ 19 _ (by decide) (by decide) (by decide)]
  ·rfl
 split
 ·rw [q _ 10 _ (by decide) (by decide) (by decide)]
 split
 ·rw [q _ 16 _ (by decide) (by decide) (by decide),qs]
 split
 ·rw [q _ 16 _ (by decide) (by decide) (by decide)]
 split
 ·split
  ·rfl
  ·rw [q _ 16 _ (by decide) (by decide) (by decide),qs]
 ·rfl
theorem zvu {k:Nat} (hk:k=7∨k=9) (Z:Nat→Nat→Int) (p y:Int):wrZ Z p y k=Z k:=by
 have q:∀(Y:Nat→Nat→Int) (j:Nat) (g:Nat→Int),j≠7→j≠9→upZ Y j g k=Y k:=fun Y j g h1 h2=>zbc _ _ _ _ (by omega)
 have qs:setZ Z k=Z k:=zpk Z k (by omega);have ef:∀(Y:Nat→Nat→Int) (x:Int),effZ Y x y k=Y k:=fun Y x=>by
  unfold effZ zsn zkG zpl
  repeat' split
  all_goals first
   |rfl
   |(rw [q _ 13 _ (by decide) (by decide),q _ 3 _ (by decide) (by decide),q _ 0 _ (by decide) (by decide),q _ 18 _ (by decide) (by decide)];done)
   |(rw [q _ 19 _ (by decide) (by decide),q _ 18 _ (by decide) (by decide)];done)
   |(rw [q _ 19 _ (by decide) (by decide)];done)
   |(rw [q _ 4 _ (by decide) (by decide)];done)
 unfold wrZ zcw;split
 ·rw [q _ 8 _ (by decide) (by decide)]
 split
 ·rw [ef];unfold zgk;rw [q _ 5 _ (by decide) (by decide),q _ 0 _ (by decide) (by decide)]
 split
 ·rw [q _ 10 _ (by decide) (by decide)]
 split
 ·rw [q _ 16 _ (by decide) (by decide),q _ 11 _ (by decide) (by decide)]
 split
 ·rw [q _ 16 _ (by decide) (by decide),q _ 12 _ (by decide) (by decide),qs]
 split
 ·rw [q _ 16 _ (by decide) (by decide),q _ 14 _ (by decide) (by decide)]
 split
 ·rw [q _ 16 _ (by decide) (by decide),q _ 13 _ (by decide) (by decide),qs]
 ·rfl
theorem zub {Z:Nat→Nat→Int} (h:∀k,GZ k (Z k)) {bs:List Int} (hb:∀z,z ∈ bs→0≤z∧z<256) (p:Int):0≤rdV bs Z p∧rdV bs Z p<256:=by
 have h16:=h 16;have hs:=zfq h;unfold rdV;split
 ·unfold romB;rw [List.getD_eq_getElem?_getD];cases e:bs[(zdH ((bs.length/8192:Nat):Int) (Z 7 0) (p/8192)*8192+p%8192).toNat]? with
  |none=>exact ⟨by decide,by decide⟩
  |some z=>exact hb z (List.mem_of_getElem? e)
 split
 ·exact h 8 _
 split
 ·have h3:=h 3;have h19:=(h 19).2.2.2.2;split
  ·exact ⟨h3.1,by have:=h3.2;omega⟩
  split
  ·omega
  split
  ·omega
  ·exact ⟨by decide,by decide⟩
 split
 ·have h10:=(h 10).2 (Z 10 1).toNat;unfold vceR;split
  ·omega
  split
  ·omega
  ·exact ⟨by decide,by decide⟩
 split
 ·exact h16
 split
 ·have o:=zfm (hs 12);have:=o.2.2.1;have:=h16.1;have:=h16.2;omega
 split
 ·have r0:=J23.preOf_in (isB (Z 14 0)) (isB (Z 14 2)) (Z 14 3) (fun n=>Z 15 (2*n)) (fun n=>isB (Z 15 (2*n+1)));unfold padR J23.rdOf;simp;omega
 split
 ·split
  ·exact h16
  ·have hr:0≤zcA (setZ Z 13 0) (setZ Z 13 1) (atW p)∧zcA (setZ Z 13 0) (setZ Z 13 1) (atW p)<8:=by
    unfold zcA;split
    ·omega
    ·split<;>omega
   have:=h16.1;have:=h16.2;omega
 ·exact ⟨by decide,by decide⟩
def cyc (Z:Nat→Nat→Int) (n:Int):Nat→Nat→Int:=upZ Z 23 (oneV (wrap64 (Z 23 0+n)))
def setR (Z:Nat→Nat→Int) (k:Nat) (x:Int):Nat→Nat→Int:=upZ Z 20 (up (Z 20) k x)
def phZ (Z:Nat→Nat→Int) (a:Int):Int:=zlA (Z 9) a
def slZ (Z:Nat→Nat→Int) (a:Int):Int:=zrf (zaI (phZ Z a))
def rV (bs:List Int) (Z:Nat→Nat→Int) (a:Int):Int:=rdV bs Z (phZ Z a)
def rS (Z:Nat→Nat→Int) (a:Int):Nat→Nat→Int:=rdZ (cyc Z (slZ Z a)) (phZ Z a)
def wS (Z:Nat→Nat→Int) (a y:Int):Nat→Nat→Int:=wrZ (cyc Z (slZ Z a)) (phZ Z a) (y%256)
theorem zhR (Z:Nat→Nat→Int) (n:Int) (j:Nat) (h:j≠23):cyc Z n j=Z j:=zbc _ _ _ _ h
theorem zfV (Z:Nat→Nat→Int) (k:Nat) (x:Int):setR Z k x 20=up (Z 20) k x:=zdd _ _ _
theorem zeq (Z:Nat→Nat→Int) (a:Int) (j:Nat) (h:j=7∨j=8∨j=9∨j=20∨j=21∨j=22):rS Z a j=Z j:=by
 unfold rS
 by_cases hj:20≤j
 ·rw [zfs hj,zhR _ _ _ (by omega)]
 ·rw [zvt (by omega),zhR _ _ _ (by omega)]
theorem zkJ (Z:Nat→Nat→Int) (a y:Int) (j:Nat) (h:j=7∨j=9∨j=20∨j=21∨j=22):wS Z a y j=Z j:=by
 unfold wS
 by_cases hj:20≤j
 ·rw [zbC hj,zhR _ _ _ (by omega)]
 ·rw [zvu (by omega),zhR _ _ _ (by omega)]
end Go.Proofs.YtoijhhbiknhlnaaGreatDoor.L25
namespace Go.Proofs.YtoijhhbiknhlnaaGreatDoor
set_option maxRecDepth 20000
open Go.RowKit
set_option linter.unusedVariables false
def cntD:List Nat→(Nat→Bool)→Nat
 |[],_=>0
 |p::ps,d=>(if d p=true then 1 else 0)+cntD ps d
theorem zjL:∀(ps:List Nat) (d:Nat→Bool),(∀i,d i=false)→cntD ps d=0
 |[],_,_=>rfl
 |p::ps,d,h=>by
  unfold cntD;rw [h p,zjL ps d h];rfl
theorem zjM:∀(ps:List Nat) (d:Nat→Bool) (i:Nat),ps.contains i=false→cntD ps (updD d i)=cntD ps d
 |[],_,_,_=>rfl
 |p::ps,d,i,h=>by
  simp only [List.contains_cons,Bool.or_eq_false_iff,beq_eq_false_iff_ne] at h;unfold cntD;rw [zaw d (fun e=>h.1 e.symm),zjM ps d i h.2]
theorem zaa {A:Nat→World→Prop} {ps:List Nat} {d:Nat→Bool} {i:Nat} {w:World} (h:ps.contains i=false) (hs:A (cntD ps d) w):A (cntD ps (updD d i)) w:=by
 rw [zjM ps d i h];exact hs
theorem zaz {A:Nat→World→Prop} {ps:List Nat} {d:Nat→Bool} {w:World} (h:∀i,d i=false) (hs:A 0 w):A (cntD ps d) w:=by
 rw [zjL ps d h];exact hs
theorem zae {A:Nat→World→Prop} {ps:List Nat} {d:Nat→Bool} {n:Nat} {w:World} (h:cntD ps d=n) (hs:A (cntD ps d) w):A n w:=h▸hs
theorem zaE {A:Nat→World→Prop} {ps:List Nat} {d:Nat→Bool} {n:Nat} {w:World} (h:cntD ps d=n) (hs:A n w):A (cntD ps d) w:=h▸hs
def stgs (l:List (World→Prop)) (n:Nat) (w:World):Prop:=(l.getD n (fun _=>True)) w
def Stab (A:World→Prop):Prop:=∀x y,A x→Below x.heap.size x y→A y
theorem zcb {l:List (World→Prop)} (h:∀A,A ∈ l→Stab A) {n:Nat} {x y:World} (k:stgs l n x) (b:Below x.heap.size x y):stgs l n y:=by
 unfold stgs at k ⊢;rw [List.getD_eq_getElem?_getD] at k ⊢;cases e:l[n]? with
 |none=>trivial
 |some A=>
  rw [e] at k;exact h A (List.mem_of_getElem? e) x y k b
theorem zaX:∀(ps:List Nat) (d:Nat→Bool),cntD ps d≤ps.length
 |[],_=>Nat.le_refl _
 |p::ps,d=>by
  have:=zaX ps d;unfold cntD;rw [List.length_cons];split<;>omega
theorem zhS {A B:World→Prop} {n:Nat} {x:World} {P:Prop} (h:stgs [A,B] n x) (hn:n≤1) (a:A x→P) (b:B x→P):P:=by
 rcases n with _|_|n
 ·exact a h
 ·exact b h
 ·omega
theorem zeH {A B C:World→Prop} {n:Nat} {x:World} {P:Prop} (h:stgs [A,B,C] n x) (hn:n≤2) (a:A x→P) (b:B x→P) (c:C x→P):P:=by
 rcases n with _|_|_|n
 ·exact a h
 ·exact b h
 ·exact c h
 ·omega
theorem zpA {A:World→Prop} (h:Stab A):∀C,C ∈ [A]→Stab C:=fun C hC=>by simp at hC;rw [hC];exact h
theorem zpB {A B:World→Prop} (h:Stab A) (k:Stab B):∀C,C ∈ [A,B]→Stab C:=fun C hC=>by
 simp at hC;rcases hC with rfl|rfl<;>assumption
theorem stab3 {A B C:World→Prop} (h:Stab A) (k:Stab B) (m:Stab C):∀D,D ∈ [A,B,C]→Stab D:=fun D hD=>by
 simp at hD;rcases hD with rfl|rfl|rfl<;>assumption
end Go.Proofs.YtoijhhbiknhlnaaGreatDoor
