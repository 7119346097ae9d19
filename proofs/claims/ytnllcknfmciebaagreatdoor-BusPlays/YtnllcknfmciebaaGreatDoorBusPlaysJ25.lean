/- States of a machine: a number for each cell of each part, and what is done to them. No word of the document's machine is in it. -/
import Derived.Test.YtnllcknfmciebaaGreatDoorBusPlaysJ24
namespace Go.Proofs.YtnllcknfmciebaaGreatDoor.L24
set_option maxRecDepth 20000
open B4 C3 G6 I11 J23 M5 P22 R15 T10 V12 W13
open Go.RowKit
set_option linter.unusedVariables false
def upZ (Z:Nat→Nat→Int) (k:Nat) (g:Nat→Int):Nat→Nat→Int:=fun i=>if i=k then g else Z i
theorem upZ_same (Z:Nat→Nat→Int) (k:Nat) (g:Nat→Int):upZ Z k g k=g:=by simp [upZ]
theorem upZ_other (Z:Nat→Nat→Int) (k i:Nat) (g:Nat→Int) (h:i≠k):upZ Z k g i=Z i:=by simp [upZ,h]
theorem upZ_id (Z:Nat→Nat→Int) (k:Nat):upZ Z k (Z k)=Z:=funext fun i=>by
 unfold upZ
 split
 ·rename_i h;rw [h]
 ·rfl
def oneV (x:Int):Nat→Int:=fun _=>x
def twoV (x y:Int):Nat→Int:=fun j=>if j=0 then x else y
def isB (x:Int):Bool:=x==1
def b2i (b:Bool):Int:=if b then 1 else 0
theorem isB_b2i (b:Bool):isB (b2i b)=b:=by cases b<;>rfl
def tvZ (g:Nat→Int):Nat→Value:=tv (g 0) (g 1) (isB (g 2)) (g 3)
def pvZ (g:Nat→Int):Nat→Value:=pv (isB (g 0)) (isB (g 1)) (isB (g 2)) (g 3)
def pcZ (g:Nat→Int):Nat→Value:=J23.pc (fun n=>g (2*n)) (fun n=>isB (g (2*n+1)))
def XP (v c:Nat) (Z:Nat→Nat→Int):List (Nat×(Nat→Value)):=
 [(21,iv (Z 0)),(1,fun _=>.pointer (some ⟨v,0,none⟩)),(256,iv (Z 2)),(1,fun _=>Value.int .i64 (Z 3 0)),(1,fun _=>.bool (isB (Z 4 0))),(1,fun _=>.bool (isB (Z 5 0))),(1,fun _=>.pointer (some ⟨c,0,none⟩)),(1,fun _=>Value.int .i64 (Z 7 0)),(8192,bv (Z 8)),(8,iv (Z 9)),(514,iv (Z 10)),(244,iv (Z 11)),(4,tvZ (Z 12)),(2,sv (Z 13 0) (Z 13 1)),(4,pvZ (Z 14)),(10,pcZ (Z 15)),(1,fun _=>Value.int .i64 (Z 16 0)),(1,fun _=>Value.int .i64 (Z 17 0))]
def advG (g:Nat→Int) (t:Int):Nat→Int:=fun j=>if j=1 then cT (g 0) (g 1) (isB (g 2)) (g 3) t else if j=3 then pT (g 0) (g 1) (isB (g 2)) (g 3) t else g j
def rndG (g:Nat→Int) (t:Int):Int:=kT (g 0) (g 1) (isB (g 2)) (g 3) t
def setZ (Z:Nat→Nat→Int):Nat→Nat→Int:=upZ (upZ (upZ Z 12 (advG (Z 12) (Z 17 0))) 13 (twoV (mT (Z 13 0) (rndG (Z 12) (Z 17 0))) (lT (Z 13 1) (rndG (Z 12) (Z 17 0))))) 17 (oneV 0)
theorem advG_zero (g:Nat→Int):advG g 0=g:=funext fun j=>by
 unfold advG cT pT goT
 simp
 split
 ·rename_i h;rw [h]
 ·split
  ·rename_i h;rw [h]
  ·rfl
theorem rndG_zero (g:Nat→Int):rndG g 0=0:=by
 unfold rndG kT goT
 simp
def GoodZ (Z:Nat→Nat→Int):Prop:=
 (0≤Z 0 0∧Z 0 0<32)∧(∀i,i<20→0≤Z 0 (i+1)∧Z 0 (i+1)<65536)∧(0≤Z 3 0∧Z 3 0<128)∧(∀j,0≤Z 8 j∧Z 8 j<256)∧(0≤Z 10 1∧Z 10 1<512)∧(∀j,0≤Z 10 (j+2)∧Z 10 (j+2)<512)∧P22.okP (Z 11)∧okT (Z 12 0) (Z 12 1) (isB (Z 12 2)) (Z 12 3)=true∧((0≤Z 13 0∧Z 13 0<8)∧0≤Z 13 1∧Z 13 1<8)∧(0≤Z 16 0∧Z 16 0<256)∧(0≤Z 17 0∧Z 17 0≤8388608) ∧
 (∀j,0≤Z 18 j∧Z 18 j<65536)∧(0≤Z 19 0∧Z 19 0<65536)∧(0≤Z 19 1∧Z 19 1<65536)∧(1≤Z 19 2∧Z 19 2<65536)∧(0≤Z 19 3∧Z 19 3<256)∧(0≤Z 19 4∧Z 19 4<65536)∧Z 13=twoV (Z 13 0) (Z 13 1)∧Z 17=oneV (Z 17 0)
def HasP (w:World) (b v c d:Nat) (bs:List Int) (Z:Nat→Nat→Int):Prop:=HasX w b v c d (XP v c Z) bs (Z 18) (Z 19 0) (Z 19 1) (Z 19 2) (Z 19 3) (Z 19 4)
theorem HasP.next {w w':World} {b v c d:Nat} {bs:List Int} {Z:Nat→Nat→Int} (h:HasP w b v c d bs Z) (k:Below w.heap.size w w'):HasP w' b v c d bs Z:=HasX.next h k
theorem HasP.only {E:Nat→Prop} {w w':World} {b v c d:Nat} {bs:List Int} {Z:Nat→Nat→Int} (h:HasP w b v c d bs Z) (k:OnlyE E w w') (hb:¬E b) (hv:¬E v) (hc:¬E c) (hd:¬E d) (hE:∀i,E i→High i):HasP w' b v c d bs Z:=by
 obtain ⟨q1,q2,q3,q4,q5⟩:=h
 exact ⟨k.obj q1 hb,k.obj q2 hv,q3.only k hc hd,q4.only k hE,q5⟩
theorem vF_eta (g:Nat→Int):vF (g 0) (g 1) (fun j=>g (j+2))=g:=funext fun j=>by
 unfold vF
 rcases j with _|_|j
 ·rfl
 ·rfl
 ·rw [if_neg (by omega),if_neg (by omega)]
  rfl
theorem gF_eta (g:Nat→Int):gF (g 0) (fun j=>g (j+1))=g:=funext fun j=>by
 unfold gF
 rcases j with _|j
 ·rfl
 ·rw [if_neg (by omega)]
  rfl
theorem setZ_up (Z:Nat→Nat→Int) (k:Nat) (g:Nat→Int) (h:k≠12∧k≠13∧k≠17):setZ (upZ Z k g)=upZ (setZ Z) k g:=by
 have h12:upZ Z k g 12=Z 12:=upZ_other _ _ _ _ (fun e=>h.1 e.symm)
 have h13:upZ Z k g 13=Z 13:=upZ_other _ _ _ _ (fun e=>h.2.1 e.symm)
 have h17:upZ Z k g 17=Z 17:=upZ_other _ _ _ _ (fun e=>h.2.2 e.symm)
 unfold setZ
 rw [h12,h13,h17]
 funext i
 unfold upZ
 by_cases e1:i=17
 ·subst e1
  rw [if_pos rfl,if_neg (fun e=>h.2.2 e.symm),if_pos rfl]
 ·rw [if_neg e1]
  by_cases e2:i=13
  ·subst e2
   rw [if_pos rfl,if_neg (fun e=>h.2.1 e.symm),if_neg e1,if_pos rfl]
  ·rw [if_neg e2]
   by_cases e3:i=12
   ·subst e3
    rw [if_pos rfl,if_neg (fun e=>h.1 e.symm),if_neg e1,if_neg e2,if_pos rfl]
   ·rw [if_neg e3]
    by_cases e4:i=k
    ·rw [if_pos e4,if_pos e4]
    ·rw [if_neg e4,if_neg e4,if_neg e1,if_neg e2,if_neg e3]
theorem setZ_irq (Z:Nat→Nat→Int) (m l:Int):setZ (upZ Z 13 (twoV m l))=upZ (setZ Z) 13 (twoV (mT m (rndG (Z 12) (Z 17 0))) (lT l (rndG (Z 12) (Z 17 0)))):=by
 unfold setZ
 rw [upZ_other Z 13 12 _ (by decide),upZ_other Z 13 17 _ (by decide),upZ_same]
 funext i
 unfold upZ
 by_cases e1:i=17
 ·subst e1;rfl
 ·rw [if_neg e1]
  by_cases e2:i=13
  ·subst e2;rfl
  ·by_cases e3:i=12
   ·subst e3;rfl
   ·simp [e1,e2,e3]
theorem setZ_flat (Y:Nat→Nat→Int) (h13:Y 13=twoV (Y 13 0) (Y 13 1)) (h17:Y 17=oneV 0):setZ Y=Y:=by
 have e:Y 17 0=0:=by rw [h17];rfl
 unfold setZ
 rw [e,advG_zero,rndG_zero,show mT (Y 13 0) 0=Y 13 0 from rfl,show lT (Y 13 1) 0=Y 13 1 from rfl,←h13,←h17,upZ_id,upZ_id,upZ_id]
theorem setZ_13 (Z:Nat→Nat→Int):setZ Z 13=twoV (mT (Z 13 0) (rndG (Z 12) (Z 17 0))) (lT (Z 13 1) (rndG (Z 12) (Z 17 0))):=rfl
theorem setZ_no (Z:Nat→Nat→Int) (i:Nat) (h:i≠12∧i≠13∧i≠17):setZ Z i=Z i:=by
 unfold setZ
 rw [upZ_other _ _ _ _ h.2.2,upZ_other _ _ _ _ h.2.1,upZ_other _ _ _ _ h.1]
theorem kind_ram {p:Int} (p0:2031616≤p) (p1:p<2064384):kindW p=1∧pageW p=0∧atW p=p%8192:=by
 have k:kindW p=1:=by unfold kindW;rw [if_neg (by omega),if_neg (by omega),if_pos (by omega)]
 refine ⟨k,by unfold pageW;rw [if_neg (by omega)],?_⟩
 unfold atW
 rw [k,if_pos (.inr rfl)]
def romB (bs:List Int) (Z:Nat→Nat→Int) (p:Int):Int:=bs.getD (pageOf ((bs.length/8192:Nat):Int) (Z 7 0) (p/8192)*8192+p%8192).toNat 0
def holdZ (Z:Nat→Nat→Int) (x:Int):Nat→Nat→Int:=upZ Z 16 (oneV x)
def lookZ (Z:Nat→Nat→Int):Nat→Nat→Int:=upZ (upZ Z 3 (oneV 0)) 13 (twoV (Z 13 0%8) (bic3 (Z 13 1) 2))
def portV (a b c d e:Int):Nat→Int:=fun j=>if j=0 then a else if j=1 then b else if j=2 then c else if j=3 then d else e
def nextZ (Z:Nat→Nat→Int):Nat→Nat→Int:=upZ Z 19 (portV (Z 19 0) ((Z 19 1+Z 19 2)%65536) (Z 19 2) (Z 19 3) (wordAt (Z 18) ((Z 19 1+Z 19 2)%65536)))
def vceW (g:Nat→Int) (a y:Int):Nat→Int:=
 if a=0 then vF y (g 1) (fun j=>g (j+2)) else if a=2 then vF (g 0) (g 1/256*256+y) (fun j=>g (j+2)) else if a=3 then vF (g 0) (g 1%256+y%2*256) (fun j=>g (j+2))
 else if a=4 then vF (g 0) (g 1) (V12.upd (fun j=>g (j+2)) (g 1).toNat (g ((g 1).toNat+2)/256*256+y)) else if a=5 then vF (g 0) ((g 1+1)%512) (V12.upd (fun j=>g (j+2)) (g 1).toNat (g ((g 1).toNat+2)%256+y%2*256)) else g
def vceR (g:Nat→Int) (a:Int):Int:=if a=4 then g ((g 1).toNat+2)%256 else if a=5 then 254+g ((g 1).toNat+2)/256 else 255
def vceN (g:Nat→Int) (a:Int):Nat→Int:=if a=5 then vF (g 0) ((g 1+1)%512) (fun j=>g (j+2)) else g
def timW (g:Nat→Int) (a y:Int):Nat→Int:=
 if a=0 then fun j=>if j=0 then y%128 else g j else fun j=>if j=1 then ctlC (g 0) (g 1) (isB (g 2)) (isB (y%2)) else if j=2 then y%2 else if j=3 then ctlP (g 3) (isB (g 2)) (isB (y%2)) else g j
theorem at_timer {p:Int} (hk:kindW p=5):atW p=0∨atW p=1:=by
 unfold atW
 rw [hk]
 simp
 omega
def padW (g:Nat→Int) (y:Int):Nat→Int:=fun j=>if j=0 then bitOf y 0 else if j=1 then bitOf y 1 else if j=2 then b2i (J23.nxD (isB (g 1)) (isB (g 2)) (J23.clrB y)) else J23.nxI (isB (g 0)) (J23.selB y) (J23.clrB y) (g 3)
theorem padW_pv (g:Nat→Int) (y:Int):pvZ (padW g y)=pv (J23.selB y) (J23.clrB y) (J23.nxD (isB (g 1)) (isB (g 2)) (J23.clrB y)) (J23.nxI (isB (g 0)) (J23.selB y) (J23.clrB y) (g 3)):=by
 unfold pvZ
 rw [show isB (padW g y 2)=J23.nxD (isB (g 1)) (isB (g 2)) (J23.clrB y) from isB_b2i _]
 rfl
def irqM (m l a y:Int):Int:=if a=2 then y%8 else if a=3 then m%8 else m
def irqL (m l a y:Int):Int:=if a=2 then l%8 else if a=3 then bic3 l 4 else l
def tellZ (Z:Nat→Nat→Int) (n:Int) (may:Bool):Nat→Nat→Int:=upZ (upZ Z 3 (oneV (bits .or .i64 (Z 3 0) n))) 13 (if may=true then twoV (Z 13 0%8) (or3 (Z 13 1) 2) else Z 13)
theorem or_bit (s n:Int) (s0:0≤s) (s1:s<128) (hn:n=1∨n=2∨n=4∨n=8∨n=16∨n=32):(if s/n%2=0 then s+n else s)=bits .or .i64 s n∧0≤bits .or .i64 s n∧bits .or .i64 s n<128:=by
 obtain ⟨k,rfl⟩:∃k:Nat,s=(k:Int):=⟨s.toNat,by omega⟩
 have hk:k<128:=by omega
 have q:∀x:Fin 128,∀n ∈ [(1:Int),2,4,8,16,32],(if (x.val:Int)/n%2=0 then (x.val:Int)+n else (x.val:Int))=bits .or .i64 (x.val:Int) n∧0≤bits .or .i64 (x.val:Int) n∧bits .or .i64 (x.val:Int) n<128:=by decide +kernel
 exact q ⟨k,hk⟩ n (by rcases hn with rfl|rfl|rfl|rfl|rfl|rfl<;>simp)
def tickZ (Z:Nat→Nat→Int) (n:Int):Nat→Nat→Int:=upZ (upZ Z 12 (advG (Z 12) n)) 13 (twoV (mT (Z 13 0) (rndG (Z 12) n)) (lT (Z 13 1) (rndG (Z 12) n)))
theorem tick_off (Z:Nat→Nat→Int) (n:Int) (ho:isB (Z 12 2)=false) (h13:Z 13=twoV (Z 13 0) (Z 13 1)):tickZ Z n=Z:=by
 have g0:∀t,goT (Z 12 0) (Z 12 1) (isB (Z 12 2)) (Z 12 3) t=false:=fun t=>by unfold goT;rw [ho];rfl
 have e1:advG (Z 12) n=Z 12:=funext fun j=>by
  unfold advG cT pT
  rw [g0]
  simp
  split
  ·rename_i h;rw [h]
  ·split
   ·rename_i h;rw [h]
   ·rfl
 have e2:rndG (Z 12) n=0:=by unfold rndG kT;rw [g0];simp
 unfold tickZ
 rw [e1,e2,show mT (Z 13 0) 0=Z 13 0 from rfl,show lT (Z 13 1) 0=Z 13 1 from rfl,←h13,upZ_id,upZ_id]
def gW (g:Nat→Int) (a y:Int):Nat→Int:=
 if a=0 then gF (y%32) (fun j=>g (j+1)) else if (a=2∨a=3)∧g 0<20 then gF (g 0) (R15.upd (fun j=>g (j+1)) (g 0).toNat (bits .and .i64 (R15.halfOf (g ((g 0).toNat+1)) a y) (R15.mk (g 0).toNat))) else g
def effW (g:Nat→Int) (a:Int):Int:=if a=0 then 0 else if (a=2∨a=3)∧g 0<20 then R15.bringsOf (g 0) a else 0
theorem preg_any (g:Nat→Int) (a y:Int) (g0:0≤g 0) (w:World) (hM:HasMask w):Calls Tryz.prog 89 #[.agg (rowF (iv g) 21),.int .i64 a,.int .i64 y] w fun e w'=>e=Ending.returned (.tuple #[.agg (rowF (iv (gW g a y)) 21),.int .i64 (effW g a)])∧Below w.heap.size w w':=by
 unfold gW effW
 conv=>arg 3;rw [←gF_eta g,gF_row]
 by_cases a0:a=0
 ·subst a0
  rw [if_pos rfl,if_pos rfl,gF_row]
  exact R15.write_sel (g 0) y (y%32) (fun j=>g (j+1)) rfl w
 rw [if_neg a0,if_neg a0]
 by_cases ha:(a=2∨a=3)∧g 0<20
 ·rw [if_pos ha,if_pos ha,gF_row]
  obtain ⟨i,hi⟩:∃i:Nat,g 0=(i:Int):=⟨(g 0).toNat,by omega⟩
  rw [hi,Int.toNat_natCast]
  exact R15.write_at i (by omega) a y _ _ _ _ (fun j=>g (j+1)) ha.1 rfl rfl rfl rfl w hM
 ·rw [if_neg ha,if_neg ha]
  conv=>arg 5;rw [←gF_eta g,gF_row]
  exact R15.write_no a (g 0) y (fun j=>g (j+1)) ⟨a0,fun h=>.inr (by omega)⟩ w
def drawZ (Z:Nat→Nat→Int) (a y:Int):Nat→Nat→Int:=upZ (upZ Z 0 (gW (Z 0) a y)) 5 (oneV (b2i (mvB (isB (Z 5 0)) (gW (Z 0) a y 0) a)))
def moveA (Z:Nat→Nat→Int):Nat→Nat→Int:=upZ (upZ Z 18 (mvTo (Z 18) (Z 0 17%65536) (W13.farOf (Z 0 16) 2) (Z 0 18%65536) (W13.farOf (Z 0 16) 3) (Z 0 19%65536+1).toNat)) 0 (up (up (up (Z 0) 17 (placeAt (Z 0 17%65536) (W13.farOf (Z 0 16) 2) (Z 0 19%65536+1).toNat)) 18 (placeAt (Z 0 18%65536) (W13.farOf (Z 0 16) 3) (Z 0 19%65536+1).toNat)) 19 65535)
def moveZ (Z:Nat→Nat→Int):Nat→Nat→Int:=tellZ (moveA Z) 16 (isB (Z 0 16/2%2))
def effZ (Z:Nat→Nat→Int) (e y:Int):Nat→Nat→Int:=
 if e=1 then upZ Z 19 (portV (Z 0 1) (Z 19 1) (Z 19 2) (Z 19 3) (Z 19 4))
 else if e=2 then upZ Z 19 (portV (Z 19 0) (Z 0 2) (Z 19 2) (Z 19 3) (wordAt (Z 18) (Z 0 2)))
 else if e=3 then upZ Z 19 (portV (Z 19 0) (Z 19 1) (Z 19 2) y (Z 19 4))
 else if e=4 then upZ (upZ Z 18 (pokeAt (Z 18) (Z 19 0) (Z 19 3+256*y))) 19 (portV ((Z 19 0+Z 19 2)%65536) (Z 19 1) (Z 19 2) (Z 19 3) (Z 19 4))
 else if e=5 then upZ Z 19 (portV (Z 19 0) (Z 19 1) (R15.farOf (R15.pairOf (Z 0 6) 11)) (Z 19 3) (Z 19 4))
 else if e=6 then moveZ Z
 else if e=7 then upZ Z 4 (oneV 1)
 else Z
theorem eff_in (g:Nat→Int) (a:Int):0≤effW g a∧effW g a≤7:=by
 unfold effW
 split
 ·omega
 split
 ·unfold R15.bringsOf
  split
  ·omega
  split
  ·split<;>omega
  split
  ·omega
  split
  ·omega
  split
  ·omega
  split
  ·omega
  split<;>omega
 ·omega
end Go.Proofs.YtnllcknfmciebaaGreatDoor.L24
