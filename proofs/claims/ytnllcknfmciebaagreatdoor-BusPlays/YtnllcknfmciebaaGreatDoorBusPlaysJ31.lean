/- Both machines: a read, and a write, leave one state, and tell one byte. -/
import Derived.Test.YtnllcknfmciebaaGreatDoorBusPlaysJ30
namespace Go.Proofs.YtnllcknfmciebaaGreatDoor.L24
set_option maxRecDepth 20000
open B4 C3 G6 I11 J23 M5 P22 R15 T10 V12 W13
open Go.RowKit
set_option linter.unusedVariables false
theorem kindW_cases (p:Int):(0≤p∧p<1048576∧kindW p=0)∨(2031616≤p∧p<2064384∧kindW p=1)∨kindW p=2∨kindW p=3∨kindW p=4∨kindW p=5∨kindW p=6∨kindW p=7∨kindW p=8:=by
 unfold kindW
 split
 ·omega
 split
 ·omega
 split
 ·omega
 split
 ·omega
 ·omega
theorem at_irq {p:Int} (hk:kindW p=7):0≤atW p∧atW p<4:=by
 unfold atW
 rw [hk]
 simp
 omega
theorem word_in {f:Nat→Int} (h:∀j,0≤f j∧f j<65536) (n:Int):0≤wordAt f n∧wordAt f n<65536:=by
 unfold wordAt
 split
 ·exact h _
 ·omega
theorem poke_in {f:Nat→Int} (h:∀j,0≤f j∧f j<65536) (n x:Int):∀j,0≤pokeAt f n x j∧pokeAt f n x j<65536:=by
 intro j
 unfold pokeAt
 split
 ·unfold W13.upd
  split
  ·omega
  ·exact h j
 ·exact h j
theorem mv_in {f:Nat→Int} (h:∀j,0≤f j∧f j<65536) (A S B T:Int):∀N j,0≤mvTo f A S B T N j∧mvTo f A S B T N j<65536
 |0=>h
 |N+1=>poke_in (mv_in h A S B T N) _ _
theorem bic_in (l n:Int):0≤bic3 l n∧bic3 l n<8:=bic3_in l n
theorem good_hold {Z:Nat→Nat→Int} (h:∀k,GZ k (Z k)) (x:Int) (x0:0≤x) (x1:x<256):∀k,GZ k (holdZ Z x k):=good_up h 16 _ ⟨x0,x1⟩
theorem good_look {Z:Nat→Nat→Int} (h:∀k,GZ k (Z k)):∀k,GZ k (lookZ Z k):=good_up (good_up h 3 _ ⟨by decide,by decide⟩) 13 _ ⟨⟨⟨by show 0≤Z 13 0%8;omega,by show Z 13 0%8<8;omega⟩,bic_in _ _⟩,rfl⟩
theorem good_next {Z:Nat→Nat→Int} (h:∀k,GZ k (Z k)):∀k,GZ k (nextZ Z k):=by
 have h19:=h 19
 refine good_up h 19 _ ⟨h19.1,⟨?_,?_⟩,h19.2.2.1,h19.2.2.2.1,word_in (h 18) _⟩
 ·show 0≤(Z 19 1+Z 19 2)%65536
  omega
 ·show (Z 19 1+Z 19 2)%65536<65536
  omega
theorem good_vceN {Z:Nat→Nat→Int} (h:∀k,GZ k (Z k)) (a:Int):∀k,GZ k (upZ Z 10 (vceN (Z 10) a) k):=by
 have h10:=h 10
 refine good_up h 10 _ ?_
 unfold vceN
 split
 ·refine ⟨⟨?_,?_⟩,fun j=>h10.2 j⟩
  ·show 0≤(Z 10 1+1)%512
   omega
  ·show (Z 10 1+1)%512<512
   omega
 ·exact h10
theorem good_vceW {Z:Nat→Nat→Int} (h:∀k,GZ k (Z k)) (a y:Int) (y0:0≤y) (y1:y<256):∀k,GZ k (upZ Z 10 (vceW (Z 10) a y) k):=by
 have h10:=h 10
 have hf:=h10.2 (Z 10 1).toNat
 have h1:=h10.1
 have up_in:∀x,0≤x→x<512→∀j,0≤V12.upd (fun j=>Z 10 (j+2)) (Z 10 1).toNat x j∧V12.upd (fun j=>Z 10 (j+2)) (Z 10 1).toNat x j<512:=fun x x0 x1 j=>by
  unfold V12.upd
  split
  ·exact ⟨x0,x1⟩
  ·exact h10.2 j
 refine good_up h 10 _ ?_
 unfold vceW
 split
 ·exact ⟨h1,h10.2⟩
 split
 ·refine ⟨⟨?_,?_⟩,fun j=>h10.2 j⟩
  ·show 0≤Z 10 1/256*256+y
   omega
  ·show Z 10 1/256*256+y<512
   omega
 split
 ·refine ⟨⟨?_,?_⟩,fun j=>h10.2 j⟩
  ·show 0≤Z 10 1%256+y%2*256
   omega
  ·show Z 10 1%256+y%2*256<512
   omega
 split
 ·exact ⟨h1,fun j=>up_in _ (by omega) (by omega) j⟩
 split
 ·refine ⟨⟨?_,?_⟩,fun j=>up_in _ (by omega) (by omega) j⟩
  ·show 0≤(Z 10 1+1)%512
   omega
  ·show (Z 10 1+1)%512<512
   omega
 ·exact h10
theorem good_tim {Z:Nat→Nat→Int} (h:∀k,GZ k (Z k)) (a y:Int):∀k,GZ k (upZ Z 12 (timW (Z 12) a y) k):=by
 have o:=okT_true (h 12)
 refine good_up h 12 _ ?_
 show okT _ _ _ _=true
 unfold timW
 split
 ·show okT (y%128) (Z 12 1) (isB (Z 12 2)) (Z 12 3)=true
  unfold okT
  simp only [decide_eq_true_eq]
  omega
 ·show okT (Z 12 0) (ctlC (Z 12 0) (Z 12 1) (isB (Z 12 2)) (isB (y%2))) (isB (y%2)) (ctlP (Z 12 3) (isB (Z 12 2)) (isB (y%2)))=true
  generalize isB (y%2)=on at *
  generalize isB (Z 12 2)=oo at *
  unfold okT ctlC ctlP
  simp only [decide_eq_true_eq]
  cases on<;>cases oo<;>simp [T10.preOf] at o ⊢<;>omega
theorem good_irq {Z:Nat→Nat→Int} (h:∀k,GZ k (Z k)) (a y:Int):∀k,GZ k (upZ Z 13 (twoV (irqM (Z 13 0) (Z 13 1) a y) (irqL (Z 13 0) (Z 13 1) a y)) k):=by
 have h13:=(h 13).1
 refine good_up h 13 _ ⟨⟨?_,?_⟩,rfl⟩
 ·show 0≤irqM (Z 13 0) (Z 13 1) a y∧irqM (Z 13 0) (Z 13 1) a y<8
  unfold irqM
  split
  ·omega
  split<;>omega
 ·show 0≤irqL (Z 13 0) (Z 13 1) a y∧irqL (Z 13 0) (Z 13 1) a y<8
  unfold irqL
  split
  ·omega
  split
  ·exact bic_in _ _
  ·exact h13.2
theorem good_tell {Z:Nat→Nat→Int} (h:∀k,GZ k (Z k)) (n:Int) (hn:n=1∨n=2∨n=4∨n=8∨n=16∨n=32) (may:Bool):∀k,GZ k (tellZ Z n may k):=by
 have q:=(or_bit (Z 3 0) n (h 3).1 (h 3).2 hn).2
 refine good_up (good_up h 3 (oneV (bits .or .i64 (Z 3 0) n)) q) 13 _ ?_
 cases may
 ·exact h 13
 ·exact ⟨⟨⟨by show 0≤Z 13 0%8;omega,by show Z 13 0%8<8;omega⟩,or3_in _ _⟩,rfl⟩
theorem gW_good {Z:Nat→Nat→Int} (h:∀k,GZ k (Z k)) (a y:Int):GZ 0 (gW (Z 0) a y):=by
 have h0:=h 0
 unfold gW
 split
 ·exact ⟨⟨by show 0≤y%32;omega,by show y%32<32;omega⟩,h0.2⟩
 split
 ·refine ⟨h0.1,fun i hi=>?_⟩
  show 0≤R15.upd (fun j=>Z 0 (j+1)) _ _ i∧R15.upd (fun j=>Z 0 (j+1)) _ _ i<65536
  unfold R15.upd
  split
  ·have m:=mk_mask (Z 0 0).toNat
   have k:=and_le (R15.halfOf (Z 0 ((Z 0 0).toNat+1)) a y) (R15.mk (Z 0 0).toNat) m.1 (by have:=m.2;omega)
   have:=m.2
   omega
  ·exact h0.2 i hi
 ·exact h0
theorem good_draw {Z:Nat→Nat→Int} (h:∀k,GZ k (Z k)) (a y:Int):∀k,GZ k (drawZ Z a y k):=good_up (good_up h 0 _ (gW_good h a y)) 5 _ trivial
theorem good_moveA {Z:Nat→Nat→Int} (h:∀k,GZ k (Z k)):∀k,GZ k (moveA Z k):=by
 have h0:=h 0
 refine good_up (good_up h 18 _ (mv_in (h 18) _ _ _ _ _)) 0 _ ⟨h0.1,fun i hi=>?_⟩
 unfold up
 split
 ·omega
 split
 ·exact ⟨placeAt_ge _ _ _,placeAt_lt _ _ _⟩
 split
 ·exact ⟨placeAt_ge _ _ _,placeAt_lt _ _ _⟩
 ·exact h0.2 i hi
theorem good_eff {Z:Nat→Nat→Int} (h:∀k,GZ k (Z k)) (e y:Int) (y0:0≤y) (y1:y<256):∀k,GZ k (effZ Z e y k):=by
 have h19:=h 19
 have h0:=(h 0).2
 have g1:0≤Z 0 1∧Z 0 1<65536:=h0 0 (by decide)
 have g2:0≤Z 0 2∧Z 0 2<65536:=h0 1 (by decide)
 have f:=far_ok (Z 0 6)
 unfold effZ
 split
 ·exact good_up h 19 _ ⟨g1,h19.2⟩
 split
 ·exact good_up h 19 _ ⟨h19.1,g2,h19.2.2.1,h19.2.2.2.1,word_in (h 18) _⟩
 split
 ·exact good_up h 19 _ ⟨h19.1,h19.2.1,h19.2.2.1,⟨y0,y1⟩,h19.2.2.2.2⟩
 split
 ·refine good_up (good_up h 18 _ (poke_in (h 18) _ _)) 19 _ ⟨⟨?_,?_⟩,h19.2⟩
  ·show 0≤(Z 19 0+Z 19 2)%65536
   omega
  ·show (Z 19 0+Z 19 2)%65536<65536
   omega
 split
 ·exact good_up h 19 _ ⟨h19.1,h19.2.1,⟨f.2.1,f.2.2⟩,h19.2.2.2⟩
 split
 ·exact good_tell (good_moveA h) 16 (by decide) _
 split
 ·exact good_up h 4 _ trivial
 ·exact h
theorem set_draw (Z:Nat→Nat→Int) (a y:Int):setZ (drawZ Z a y)=drawZ (setZ Z) a y:=by
 unfold drawZ
 rw [setZ_up _ _ _ (by decide),setZ_up _ _ _ (by decide),setZ_no Z 0 (by decide),setZ_no Z 5 (by decide)]
theorem set_moveA (Z:Nat→Nat→Int):setZ (moveA Z)=moveA (setZ Z):=by
 unfold moveA
 rw [setZ_up _ _ _ (by decide),setZ_up _ _ _ (by decide),setZ_no Z 0 (by decide),setZ_no Z 18 (by decide)]
theorem set_eff {Z:Nat→Nat→Int} (h:∀k,GZ k (Z k)) (e y:Int):setZ (effZ Z e y)=effZ (setZ Z) e y:=by
 unfold effZ
 rw [setZ_no Z 0 (by decide),setZ_no Z 18 (by decide),setZ_no Z 19 (by decide)]
 split
 ·exact setZ_up _ _ _ (by decide)
 split
 ·exact setZ_up _ _ _ (by decide)
 split
 ·exact setZ_up _ _ _ (by decide)
 split
 ·rw [setZ_up _ _ _ (by decide),setZ_up _ _ _ (by decide)]
 split
 ·exact setZ_up _ _ _ (by decide)
 split
 ·unfold moveZ
  rw [set_tell (good_moveA h),set_moveA,setZ_no Z 0 (by decide)]
 split
 ·exact setZ_up _ _ _ (by decide)
 ·rfl
theorem set_hold (Z:Nat→Nat→Int) (x:Int):setZ (holdZ Z x)=holdZ (setZ Z) x:=setZ_up _ _ _ (by decide)
theorem set_set {Z:Nat→Nat→Int}:setZ (setZ Z)=setZ Z:=setZ_flat _ rfl rfl
end Go.Proofs.YtnllcknfmciebaaGreatDoor.L24
