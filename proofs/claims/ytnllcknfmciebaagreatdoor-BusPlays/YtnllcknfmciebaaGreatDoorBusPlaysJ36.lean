/- Texts put together. -/
import Derived.Test.YtnllcknfmciebaaGreatDoorBusPlaysJ25
import Derived.Test.YtnllcknfmciebaaGreatDoorBusPlaysJ33
import Derived.Test.YtnllcknfmciebaaGreatDoorBusPlaysJ34
import Derived.Test.YtnllcknfmciebaaGreatDoorBusPlaysJ35
import Derived.Test.YtnllcknfmciebaaGreatDoorBusPlaysJ31
import Derived.Test.YtnllcknfmciebaaGreatDoorBusPlaysJ27
import Derived.Test.YtnllcknfmciebaaGreatDoorBusPlaysJ14
import Derived.Test.YtnllcknfmciebaaGreatDoorBusPlaysJ17
namespace Go.Proofs.YtnllcknfmciebaaGreatDoor.L24
set_option maxRecDepth 20000
open B4 C3 D24 G6 I11 J23 M5 P22 R15 T10 V12 W13
open Go.RowKit
set_option linter.unusedVariables false
def YP (P:Int) (sl:Value) (r c:Nat) (Z:Nat→Nat→Int):List (Nat×(Nat→Value)):=
 [(1,fun _=>Value.int .i64 P),(1,fun _=>Value.int .i64 (Z 7 0)),(1,fun _=>sl),(1,fun _=>.slice (some ⟨r,0,none⟩) 8192 8192),(8,iv (Z 9)),(21,iv (Z 0)),(1,fun _=>.pointer (some ⟨c,0,none⟩)),(256,iv (Z 2)),(1,fun _=>Value.int .i64 (Z 3 0)),(1,fun _=>.bool (isB (Z 4 0))),(1,fun _=>.bool (isB (Z 5 0))),(514,iv (Z 10)),(244,iv (Z 11)),(4,tvZ (Z 12)),(1,fun _=>Value.int .i64 (Z 13 0)),(1,fun _=>Value.int .i64 (Z 13 1)),(4,pvZ (Z 14)),(10,pcZ (Z 15)),(1,fun _=>Value.int .i64 (Z 16 0))]
def HasD (w:World) (b c d r:Nat) (P:Int) (sl:Value) (Z:Nat→Nat→Int):Prop:=HasY w b c d r (YP P sl r c Z) (Z 18) (Z 19 0) (Z 19 1) (Z 19 2) (Z 19 3) (Z 19 4) (Z 8)
theorem HasD.next {w w':World} {b c d r:Nat} {P:Int} {sl:Value} {Z:Nat→Nat→Int} (h:HasD w b c d r P sl Z) (k:Below w.heap.size w w'):HasD w' b c d r P sl Z:=HasY.next h k
theorem HasD.only {E:Nat→Prop} {w w':World} {b c d r:Nat} {P:Int} {sl:Value} {Z:Nat→Nat→Int} (h:HasD w b c d r P sl Z) (k:OnlyE E w w') (hb:¬E b) (hc:¬E c) (hd:¬E d) (hr:¬E r):HasD w' b c d r P sl Z:=by
 obtain ⟨q1,q2,q3,q4⟩:=h
 exact ⟨k.obj q1 hb,⟨k.obj q2.1 hc,k.obj q2.2.1 hd,q2.2.2⟩,k.obj q3 hr,q4⟩
end Go.Proofs.YtnllcknfmciebaaGreatDoor.L24
namespace Go.Proofs.YtnllcknfmciebaaGreatDoor.L24
set_option maxRecDepth 20000
open B4 C3 D24 G6 I11 J23 M5 P22 R15 T10 V12 W13
open Go.RowKit
set_option linter.unusedVariables false
def padZ (K:Nat→Int) (k:Nat):Nat→Int:=fun j=>if j/2<k then (if j%2=0 then K (j/2) else b2i (j/2==2)) else 0
def Z0 (K:Nat→Int) (k:Nat):Nat→Nat→Int:=fun i=>if i=9 then fl0 else if i=11 then freshF else if i=15 then padZ K k else if i=16 then oneV 255 else if i=19 then (fun j=>if j=2 then 1 else 0) else if i=13 then twoV 0 0 else if i=17 then oneV 0 else fun _=>0
theorem padZ_0 (K:Nat→Int):padZ K 0=fun _=>0:=funext fun j=>by
 unfold padZ
 rw [if_neg (by omega)]
theorem tvZ_0:tvZ (fun _=>0)=t0C:=funext fun j=>by
 unfold tvZ tv t0C
 rcases j with _|_|_|j<;>rfl
theorem pvZ_0:pvZ (fun _=>0)=p0C:=funext fun j=>by
 unfold pvZ pv p0C
 rcases j with _|_|_|j
 ·rfl
 ·rfl
 ·rfl
 ·rw [if_neg (by omega),if_neg (by omega),if_neg (by omega),if_neg (by omega)]
theorem pcZ_0:pcZ (fun _=>0)=a0C:=funext fun j=>by
 unfold pcZ J23.pc a0C
 rfl
theorem sv_0:sv 0 0=iv fun _=>0:=funext fun j=>by
 unfold sv iv
 split<;>rfl
theorem xp_0 (K:Nat→Int) (v c:Nat):XP v c (Z0 K 0)=LB v c:=by
 show [(21,iv fun _=>0),(1,fun _=>Value.pointer (some ⟨v,0,none⟩)),(256,iv fun _=>0),(1,fun _=>.int .i64 0),(1,fun _=>.bool false),(1,fun _=>.bool false),(1,fun _=>.pointer (some ⟨c,0,none⟩)),(1,fun _=>.int .i64 0),(8192,bv fun _=>0),(8,iv fl0),(514,iv fun _=>0),(244,iv freshF),(4,tvZ fun _=>0),(2,sv 0 0),(4,pvZ fun _=>0),(10,pcZ (padZ K 0)),(1,fun _=>.int .i64 255),(1,fun _=>.int .i64 0)]=_
 rw [padZ_0,tvZ_0,pvZ_0,pcZ_0,sv_0]
 rfl
theorem fl_up:up (fun _=>0) 1 248=fl0:=rfl
theorem fresh_rn:D24.rnTo 6=freshF:=funext fun j=>by
 unfold D24.rnTo freshF freshTo
 by_cases h:42≤j∧(j-42)%40=0∧(j-42)/40<6
 ·rw [if_pos h,if_pos (by omega)]
 ·rw [if_neg h,if_neg (by omega)]
theorem yp_0 (K:Nat→Int) (P:Int) (sl:Value) (r c:Nat):YP P sl r c (Z0 K 0)=D24.LN P sl r c (up (fun _=>0) 1 248) (D24.rnTo 6):=by
 rw [fresh_rn,fl_up]
 show [(1,fun _=>Value.int .i64 P),(1,fun _=>.int .i64 0),(1,fun _=>sl),(1,fun _=>.slice (some ⟨r,0,none⟩) 8192 8192),(8,iv fl0),(21,iv fun _=>0),(1,fun _=>.pointer (some ⟨c,0,none⟩)),(256,iv fun _=>0),(1,fun _=>.int .i64 0),(1,fun _=>.bool false),(1,fun _=>.bool false),(514,iv fun _=>0),(244,iv freshF),(4,tvZ fun _=>0),(1,fun _=>.int .i64 0),(1,fun _=>.int .i64 0),(4,pvZ fun _=>0),(10,pcZ (padZ K 0)),(1,fun _=>.int .i64 255)]=_
 rw [padZ_0,tvZ_0,pvZ_0,pcZ_0]
 rfl
theorem set_0 (K:Nat→Int) (k:Nat):setZ (Z0 K k)=Z0 K k:=setZ_flat _ rfl rfl
theorem gz_0 (K:Nat→Int) (k:Nat):∀i,GZ i (Z0 K k i)
 |0=>(show (0≤(0:Int)∧(0:Int)<32)∧∀i,i<20→0≤(0:Int)∧(0:Int)<65536 from ⟨by decide,fun _ _=>by decide⟩)
 |1=>trivial
 |2=>trivial
 |3=>(show 0≤(0:Int)∧(0:Int)<128 by decide)
 |4=>trivial
 |5=>trivial
 |6=>trivial
 |7=>trivial
 |8=>(show ∀j:Nat,0≤(0:Int)∧(0:Int)<256 from fun _=>by decide)
 |9=>trivial
 |10=>(show (0≤(0:Int)∧(0:Int)<512)∧∀j:Nat,0≤(0:Int)∧(0:Int)<512 from ⟨by decide,fun _=>by decide⟩)
 |11=>fresh_ok
 |12=>(show okT 0 0 (isB 0) 0=true by decide)
 |13=>(show ((0≤(0:Int)∧(0:Int)<8)∧0≤(0:Int)∧(0:Int)<8)∧twoV 0 0=twoV 0 0 from ⟨by decide,rfl⟩)
 |14=>trivial
 |15=>trivial
 |16=>(show 0≤(255:Int)∧(255:Int)<256 by decide)
 |17=>(show (0≤(0:Int)∧(0:Int)≤8388608)∧oneV 0=oneV 0 from ⟨by decide,rfl⟩)
 |18=>(show ∀j:Nat,0≤(0:Int)∧(0:Int)<65536 from fun _=>by decide)
 |19=>(show (0≤(0:Int)∧(0:Int)<65536)∧(0≤(0:Int)∧(0:Int)<65536)∧(1≤(1:Int)∧(1:Int)<65536)∧(0≤(0:Int)∧(0:Int)<256)∧(0≤(0:Int)∧(0:Int)<65536) by decide)
 |20=>(show (∀k:Nat,k<5→0≤(0:Int)∧(0:Int)<256)∧0≤(0:Int)∧(0:Int)<65536 from ⟨fun _ _=>by decide,by decide⟩)
 |n+21=>trivial
theorem padZ_next (K:Nat→Int) (k:Nat):padZ K (k+1)=fun j=>if j=2*k then K k else if j=2*k+1 then b2i (k==2) else padZ K k j:=funext fun j=>by
 unfold padZ
 by_cases e1:j=2*k
 ·subst e1
  rw [if_pos rfl,if_pos (by omega),if_pos (by omega),show 2*k/2=k by omega]
 ·rw [if_neg e1]
  by_cases e2:j=2*k+1
  ·subst e2
   rw [if_pos rfl,if_pos (by omega),if_neg (by omega),show (2*k+1)/2=k by omega]
  ·rw [if_neg e2]
   by_cases e3:j/2<k
   ·rw [if_pos e3,if_pos (by omega)]
   ·rw [if_neg e3,if_neg (by omega)]
end Go.Proofs.YtnllcknfmciebaaGreatDoor.L24
namespace Go.Proofs.YtnllcknfmciebaaGreatDoor
set_option maxRecDepth 20000
open Go.RowKit
set_option linter.unusedVariables false
def cntD:List Nat→(Nat→Bool)→Nat
 |[],_=>0
 |p::ps,d=>(if d p=true then 1 else 0)+cntD ps d
theorem cntD_none:∀(ps:List Nat) (d:Nat→Bool),(∀i,d i=false)→cntD ps d=0
 |[],_,_=>rfl
 |p::ps,d,h=>by
  unfold cntD
  rw [h p,cntD_none ps d h]
  rfl
theorem cntD_keep:∀(ps:List Nat) (d:Nat→Bool) (i:Nat),ps.contains i=false→cntD ps (updD d i)=cntD ps d
 |[],_,_,_=>rfl
 |p::ps,d,i,h=>by
  simp only [List.contains_cons,Bool.or_eq_false_iff,beq_eq_false_iff_ne] at h
  unfold cntD
  rw [updD_other d (fun e=>h.1 e.symm),cntD_keep ps d i h.2]
theorem stage_keep {A:Nat→World→Prop} {ps:List Nat} {d:Nat→Bool} {i:Nat} {w:World} (h:ps.contains i=false) (hs:A (cntD ps d) w):A (cntD ps (updD d i)) w:=by
 rw [cntD_keep ps d i h]
 exact hs
theorem stage_none {A:Nat→World→Prop} {ps:List Nat} {d:Nat→Bool} {w:World} (h:∀i,d i=false) (hs:A 0 w):A (cntD ps d) w:=by
 rw [cntD_none ps d h]
 exact hs
theorem stage_at {A:Nat→World→Prop} {ps:List Nat} {d:Nat→Bool} {n:Nat} {w:World} (h:cntD ps d=n) (hs:A (cntD ps d) w):A n w:=h▸hs
theorem stage_of {A:Nat→World→Prop} {ps:List Nat} {d:Nat→Bool} {n:Nat} {w:World} (h:cntD ps d=n) (hs:A n w):A (cntD ps d) w:=h▸hs
def stgs (l:List (World→Prop)) (n:Nat) (w:World):Prop:=(l.getD n (fun _=>True)) w
theorem cntD_le:∀(ps:List Nat) (d:Nat→Bool),cntD ps d≤ps.length
 |[],_=>Nat.le_refl _
 |p::ps,d=>by
  have:=cntD_le ps d
  unfold cntD
  rw [List.length_cons]
  split<;>omega
theorem stgs_case3 {A B C:World→Prop} {n:Nat} {x:World} {P:Prop} (h:stgs [A,B,C] n x) (hn:n≤2) (a:A x→P) (b:B x→P) (c:C x→P):P:=by
 rcases n with _|_|_|n
 ·exact a h
 ·exact b h
 ·exact c h
 ·omega
end Go.Proofs.YtnllcknfmciebaaGreatDoor
namespace Go.Proofs.YtnllcknfmciebaaGreatDoor
set_option maxRecDepth 20000
open B4 C3 D24 G6 I11 J23 L24 M5 P22 R15 T10 V12 W13
open Go.RowKit
set_option linter.unusedVariables false
theorem obj_nx {w w':World} {g:Nat} {o:Obj} (h:w.heap[g]? = some o) (k:Below w.heap.size w w'):w'.heap[g]? = some o:=(k.block g (lt_of_block h)).trans h
def keyF (k0 k1 k2 k3 k4:Int):Nat→Int
 |0=>k0
 |1=>k1
 |2=>k2
 |3=>k3
 |_=>k4
theorem pad_up (K:Nat→Int) (k:Nat):pcZ (padZ K (k+1))=updC (updC (pcZ (padZ K k)) (2*k) (.int .i64 (K k))) (2*k+1) (.bool (k==2)):=funext fun j=>by
 unfold pcZ J23.pc updC
 rw [padZ_next]
 dsimp only
 by_cases e:j%2=0
 ·rw [if_pos e,if_pos e,if_neg (show ¬j=2*k+1 by omega)]
  by_cases e1:j=2*k
  ·rw [if_pos e1,show 2*(j/2)=2*k by omega]
   rw [if_pos rfl]
  ·rw [if_neg e1]
   rw [if_neg (by omega),if_neg (by omega)]
 ·rw [if_neg e,if_neg e,if_neg (show ¬j=2*k by omega)]
  by_cases e1:j=2*k+1
  ·rw [if_pos e1,show 2*(j/2)+1=2*k+1 by omega]
   rw [if_neg (by omega),if_pos rfl]
   cases (k==2)<;>rfl
  ·rw [if_neg e1]
   rw [if_neg (by omega),if_neg (by omega)]
theorem but_one {b:Nat} {w w':World} (k:But b w w'):OnlyE (fun i=>i=b) w w':=⟨k.1,k.2.1,k.2.2.1,k.size,fun i hi hE=>k.block i hi hE⟩
theorem x_pad {w:World} {b v c d:Nat} {bs:List Int} {K:Nat→Int} {k:Nat} (hk:k<5) (h:HasP w b v c d bs (Z0 K k)):
  HasP ((w.setCell ⟨b,9251+2*k,none⟩ (.int .i64 (K k))).setCell ⟨b,9252+2*k,none⟩ (.bool (k==2))) b v c d bs (Z0 K (k+1))∧But b w ((w.setCell ⟨b,9251+2*k,none⟩ (.int .i64 (K k))).setCell ⟨b,9252+2*k,none⟩ (.bool (k==2))):=by
 have kb:=((But.refl b w).set (9251+2*k) (.int .i64 (K k))).set (9252+2*k) (.bool (k==2))
 refine ⟨?_,kb⟩
 have q1:=h.1.put 15 rfl (2*k) (by omega) (a:=9251+2*k) (by rw [h.isB.off 15 (a:=9251) rfl]) (.int .i64 (K k))
 have q2:=q1.put 15 (n:=10) (f:=updC (pcZ (padZ K k)) (2*k) (.int .i64 (K k))) rfl (2*k+1) (by omega) (a:=9252+2*k) (by rw [(h.isB.set (k:=15) rfl _).off 15 (a:=9251) rfl];omega) (.bool (k==2))
 rw [List.set_set] at q2
 have q3:=HasX.lay h kb 15 (s':=pcZ (padZ K (k+1))) rfl (by rw [pad_up];exact q2) (by decide) (by decide)
 exact q3
theorem d_pad {w:World} {b c d r:Nat} {P:Int} {sl:Value} {K:Nat→Int} {k:Nat} (hk:k<5) (h:HasD w b c d r P sl (Z0 K k)):
  HasD ((w.setCell ⟨b,1061+2*k,none⟩ (.int .i64 (K k))).setCell ⟨b,1062+2*k,none⟩ (.bool (k==2))) b c d r P sl (Z0 K (k+1))∧But b w ((w.setCell ⟨b,1061+2*k,none⟩ (.int .i64 (K k))).setCell ⟨b,1062+2*k,none⟩ (.bool (k==2))):=by
 have kb:=((But.refl b w).set (1061+2*k) (.int .i64 (K k))).set (1062+2*k) (.bool (k==2))
 refine ⟨?_,kb⟩
 have y:=h.2.2.2.1
 have q1:=h.1.put 17 rfl (2*k) (by omega) (a:=1061+2*k) (by rw [y.off 17 (a:=1061) rfl]) (.int .i64 (K k))
 have q2:=q1.put 17 (n:=10) (f:=updC (pcZ (padZ K k)) (2*k) (.int .i64 (K k))) rfl (2*k+1) (by omega) (a:=1062+2*k) (by rw [(y.set (k:=17) rfl _).off 17 (a:=1061) rfl];omega) (.bool (k==2))
 rw [List.set_set] at q2
 have q3:=D24.HasY.row h kb (L':=(YP P sl r c (Z0 K k)).set 17 (10,pcZ (padZ K (k+1)))) (by rw [pad_up];exact q2) (y.set rfl _) rfl rfl
 exact q3
end Go.Proofs.YtnllcknfmciebaaGreatDoor
