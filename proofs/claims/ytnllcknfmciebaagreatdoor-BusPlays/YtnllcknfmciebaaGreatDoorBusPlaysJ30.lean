/- Texts put together. -/
import Derived.Test.YtnllcknfmciebaaGreatDoorBusPlaysJ26
import Derived.Test.YtnllcknfmciebaaGreatDoorBusPlaysJ29
namespace Go.Proofs.YtnllcknfmciebaaGreatDoor.L24
set_option maxRecDepth 20000
open B4 C3 G6 I11 J23 M5 P22 R15 T10 V12 W13
open Go.RowKit
set_option linter.unusedVariables false
theorem bring_move {w:World} {b:Nat} (y:Int) {R:World→Prop} (K:Calls Tryz.prog 132 #[.pointer (some ⟨b,0,none⟩)] w fun e w'=>e=Ending.returned (.tuple #[])∧R w'):Calls Tryz.prog 90 #[.pointer (some ⟨b,0,none⟩),.int .i64 6,.int .i64 y] w fun e w'=>e=Ending.returned (.tuple #[])∧R w':=by
 have K0:=hide K
 clear K
 go_enter Tryz.func90,Tryz.ntmps90
 go_wp2_with fail
 refine K0.out.mono ?_
 rintro e w2 ⟨rfl,h2⟩
 have H2:=hide h2
 clear h2
 go_wp2
 go_end0
 exact ⟨rfl,H2.out⟩
theorem bit_two (n:Int) (n0:0≤n) (n1:n<65536):bitOf n 1=n/2%2:=by
 unfold bitOf
 simp
 omega
set_option maxHeartbeats 1000000 in
theorem p_bring {w:World} {b v c d:Nat} {bs:List Int} {Z:Nat→Nat→Int} (h:HasP w b v c d bs Z) (e y:Int) (he:0≤e∧e≤7) (y0:0≤y) (y1:y<256) (gd:∀i,i<20→0≤Z 0 (i+1)∧Z 0 (i+1)<65536) (wr0:0≤Z 19 0∧Z 19 0<65536) (st0:1≤Z 19 2∧Z 19 2<65536) (lo0:0≤Z 19 3∧Z 19 3<256) (hfar:R15.farOf (R15.pairOf (Z 0 6) 11)%65536=R15.farOf (R15.pairOf (Z 0 6) 11)∧R15.farOf (R15.pairOf (Z 0 6) 11)≠0):
  Calls Tryz.prog 90 #[.pointer (some ⟨b,0,none⟩),.int .i64 e,.int .i64 y] w fun e' w'=>e'=Ending.returned (.tuple #[])∧HasP w' b v c d bs (effZ Z e y)∧OnlyE (EX b v) w w':=by
 have g1:0≤Z 0 1∧Z 0 1<65536:=gd 0 (by decide)
 have g2:0≤Z 0 2∧Z 0 2<65536:=gd 1 (by decide)
 have g16:0≤Z 0 16∧Z 0 16<65536:=gd 15 (by decide)
 unfold effZ
 rcases (show e=0∨e=1∨e=2∨e=3∨e=4∨e=5∨e=6∨e=7 by omega) with rfl|rfl|rfl|rfl|rfl|rfl|rfl|rfl
 ·exact (bring_none 0 y (.inl (by decide))).mono fun e w' ⟨e1,hw⟩=>⟨e1,by rw [hw];exact h,by rw [hw];exact OnlyE.of (Below.refl _ _)⟩
 ·exact bring_setWrite h y (Z 0 1) (rg:=Z 0) rfl (by omega)
 ·exact bring_setRead h y (Z 0 2) _ (rg:=Z 0) rfl (by omega) rfl
 ·exact bring_putLow h y y (by omega)
 ·exact bring_putHigh h y (Z 19 3+256*y) _ _ (by omega) rfl wr0.1 wr0.2 (by omega) st0.2 rfl
 ·exact bring_step h y (R15.farOf (R15.pairOf (Z 0 6) 11)) _ (rg:=Z 0) rfl (fun w=>by rw [←gF_eta (Z 0),gF_row];exact R15.far_any _ _ _ rfl w) hfar.1 hfar.2
 ·refine bring_move y (busMove_is h (u:=Z 0) rfl (X:=placeAt (Z 0 17%65536) (W13.farOf (Z 0 16) 2) (Z 0 19%65536+1).toNat) (Y:=placeAt (Z 0 18%65536) (W13.farOf (Z 0 16) 3) (Z 0 19%65536+1).toNat) (F:=mvTo (Z 18) (Z 0 17%65536) (W13.farOf (Z 0 16) 2) (Z 0 18%65536) (W13.farOf (Z 0 16) 3) (Z 0 19%65536+1).toNat)
   (fun w hh=>W13.move_is v (Z 18) _ _ _ _ _ w hh _ _ _ _ _ _ _ _ _ _ (Z 0 19%65536+1).toNat _ rfl rfl rfl rfl (by omega) rfl rfl rfl) ?_ (my:=isB (Z 0 16/2%2)) (by rw [bit_two _ g16.1 g16.2];rfl) (R:=fun w'=>HasP w' b v c d bs (moveZ Z)) (fun w hh=>p_tell (Z:=moveA Z) hh 16 _))
  intro k hk
  rcases hk with rfl|rfl|rfl|rfl|rfl|rfl|rfl
  ·exact h.1.lt
  ·exact h.2.1.lt
  ·exact h.2.2.1.2.2
  ·exact h.2.2.1.2.1.lt
  ·exact h.2.2.2.1.1.pos
  ·exact h.2.2.2.1.2.1.pos
  ·exact h.2.2.2.1.2.2.pos
 ·exact bring_sat h y rfl
theorem far_ok (n:Int):R15.farOf (R15.pairOf n 11)%65536=R15.farOf (R15.pairOf n 11)∧1≤R15.farOf (R15.pairOf n 11)∧R15.farOf (R15.pairOf n 11)<65536:=by
 have h:=R15.pairOf_lt n 11
 generalize R15.pairOf n 11=p at h
 rcases (show p=0∨p=1∨p=2∨p=3 by omega) with rfl|rfl|rfl|rfl<;>decide
theorem pw_vdc {w:World} {b v c d:Nat} {bs:List Int} {Z:Nat→Nat→Int} (h:HasP w b v c d bs Z) (g:GoodZ Z) (p n y:Int) (hy:n%256=y) (hk:kindW p=2) (gd:∀i,i<20→0≤gW (Z 0) (atW p) y (i+1)∧gW (Z 0) (atW p) y (i+1)<65536):
  Calls Tryz.prog 8 #[.pointer (some ⟨b,0,none⟩),.int .i64 p,.int .i64 n] w fun e w'=>e=Ending.returned (.tuple #[])∧HasP w' b v c d bs (effZ (drawZ Z (atW p) y) (effW (Z 0) (atW p)) y)∧OnlyE (EX b v) w w':=by
 refine write_vdc h p n _ _ (where_at p 2 _ _ hk rfl rfl) y hy (R:=fun w'=>HasP w' b v c d bs (effZ (drawZ Z (atW p) y) (effW (Z 0) (atW p)) y)) fun w1 h1=>?_
 refine writeVdc_is h1 (atW p) y (rg:=Z 0) (mv:=isB (Z 5 0)) rfl rfl (rg':=gW (Z 0) (atW p) y) (fun w hm=>preg_any (Z 0) _ _ g.1.1 w hm) fun w2 h2=>?_
 have e:(((XP v c Z).set 0 (21,iv (gW (Z 0) (atW p) y))).set 5 (1,fun _=>.bool (mvB (isB (Z 5 0)) (gW (Z 0) (atW p) y 0) (atW p))))=XP v c (drawZ Z (atW p) y):=by
  rw [←isB_b2i (mvB (isB (Z 5 0)) (gW (Z 0) (atW p) y 0) (atW p))]
  rfl
 rw [e] at h2
 have f:=far_ok (gW (Z 0) (atW p) y 6)
 exact p_bring (Z:=drawZ Z (atW p) y) h2 _ y (eff_in _ _) (by omega) (by omega) gd g.2.2.2.2.2.2.2.2.2.2.2.2.1 g.2.2.2.2.2.2.2.2.2.2.2.2.2.2.1 g.2.2.2.2.2.2.2.2.2.2.2.2.2.2.2.1 ⟨f.1,by have:=f.2.1;show R15.farOf (R15.pairOf (gW (Z 0) (atW p) y 6) 11)≠0;omega⟩
end Go.Proofs.YtnllcknfmciebaaGreatDoor.L24
namespace Go.Proofs.YtnllcknfmciebaaGreatDoor.L24
set_option maxRecDepth 20000
open B4 C3 G6 I11 J23 M5 P22 R15 T10 V12 W13
open Go.RowKit
set_option linter.unusedVariables false
def GZ:Nat→(Nat→Int)→Prop
 |0,g=>(0≤g 0∧g 0<32)∧∀i,i<20→0≤g (i+1)∧g (i+1)<65536
 |3,g=>0≤g 0∧g 0<128
 |8,g=>∀j,0≤g j∧g j<256
 |10,g=>(0≤g 1∧g 1<512)∧∀j,0≤g (j+2)∧g (j+2)<512
 |11,g=>P22.okP g
 |12,g=>okT (g 0) (g 1) (isB (g 2)) (g 3)=true
 |13,g=>((0≤g 0∧g 0<8)∧0≤g 1∧g 1<8)∧g=twoV (g 0) (g 1)
 |16,g=>0≤g 0∧g 0<256
 |17,g=>(0≤g 0∧g 0≤8388608)∧g=oneV (g 0)
 |18,g=>∀j,0≤g j∧g j<65536
 |19,g=>(0≤g 0∧g 0<65536)∧(0≤g 1∧g 1<65536)∧(1≤g 2∧g 2<65536)∧(0≤g 3∧g 3<256)∧(0≤g 4∧g 4<65536)
 |20,g=>(∀k,k<5→0≤g k∧g k<256)∧0≤g 5∧g 5<65536
 |_,_=>True
theorem good_of {Z:Nat→Nat→Int} (h:∀k,GZ k (Z k)):GoodZ Z:=
 ⟨(h 0).1,(h 0).2,h 3,h 8,(h 10).1,(h 10).2,h 11,h 12,(h 13).1,h 16,(h 17).1,h 18,(h 19).1,(h 19).2.1,(h 19).2.2.1,(h 19).2.2.2.1,(h 19).2.2.2.2,(h 13).2,(h 17).2⟩
theorem good_up {Z:Nat→Nat→Int} (h:∀k,GZ k (Z k)) (i:Nat) (g:Nat→Int) (hg:GZ i g):∀k,GZ k (upZ Z i g k):=fun k=>by
 unfold upZ
 split
 ·rename_i e;rw [e];exact hg
 ·exact h k
theorem adv_ok (g:Nat→Int) (t:Int) (h:okT (g 0) (g 1) (isB (g 2)) (g 3)=true):okT (advG g t 0) (advG g t 1) (isB (advG g t 2)) (advG g t 3)=true:=by
 show okT (g 0) (cT (g 0) (g 1) (isB (g 2)) (g 3) t) (isB (g 2)) (pT (g 0) (g 1) (isB (g 2)) (g 3) t)=true
 have h0:=okT_true h
 generalize isB (g 2)=o at *
 unfold cT pT
 by_cases hg:goT (g 0) (g 1) o (g 3) t=true
 ·rw [if_pos hg,if_pos hg]
  unfold goT at hg
  simp only [Bool.and_eq_true,decide_eq_true_eq] at hg
  obtain ⟨⟨rfl,h1⟩,h2,h3⟩:=hg
  have p1:g 3≤3071:=h0.2.2.2.2.2
  have k:=rnd_is (g 0) (g 1) ((t+g 3)/3072) h0.1 h0.2.2.1
  have l:=is_le h0.2.1 h0.2.2.2.1 (s:=(t+g 3)/3072) (by omega) k
  unfold okT T10.preOf
  simp
  have:=k.2.1
  omega
 ·rw [if_neg hg,if_neg hg]
  exact h
theorem adv_parts (g:Nat→Int) (t n:Int) (h:okT (g 0) (g 1) (isB (g 2)) (g 3)=true) (t0:0≤t) (n0:0≤n) (tn:t+n≤8388608):advG (advG g t) n=advG g (t+n)∧rndG (advG g t) n+rndG g t=rndG g (t+n)∧0≤rndG g t∧0≤rndG (advG g t) n:=by
 have h0:=okT_true h
 have hA:=adv_ok g t h
 by_cases ht:t=0
 ·subst ht
  rw [advG_zero,rndG_zero,Int.zero_add]
  refine ⟨rfl,by omega,by omega,?_⟩
  unfold rndG kT
  split
  ·exact (rnd_is _ _ _ h0.1 h0.2.2.1).1
  ·omega
 by_cases hn:n=0
 ·subst hn
  rw [advG_zero,rndG_zero,Int.add_zero]
  refine ⟨rfl,by omega,?_,by omega⟩
  unfold rndG kT
  split
  ·exact (rnd_is _ _ _ h0.1 h0.2.2.1).1
  ·omega
 cases ho:isB (g 2) with
 |false=>
  have g0:∀x y p s,goT x y (isB (g 2)) p s=false:=fun x y p s=>by unfold goT;rw [ho];rfl
  have e:∀s,advG g s=g:=fun s=>funext fun j=>by
   unfold advG cT pT
   rw [g0]
   simp
   split
   ·rename_i e;rw [e]
   ·split
    ·rename_i e;rw [e]
    ·rfl
  have r:∀s,rndG g s=0:=fun s=>by unfold rndG kT;rw [g0];simp
  rw [e t,e n,e (t+n),r t,r n,r (t+n)]
  exact ⟨rfl,by omega,by omega,by omega⟩
 |true=>
  have p1:g 3≤3071:=by have:=h0.2.2.2.2.2;rw [ho] at this;exact this
  rw [ho] at h
  have gt:∀s,1≤s→s≤8388608→goT (g 0) (g 1) (isB (g 2)) (g 3) s=true:=fun s s0 s1=>by
   unfold goT
   rw [ho,h]
   simp
   omega
  have ga:goT (advG g t 0) (advG g t 1) (isB (advG g t 2)) (advG g t 3) n=true:=by
   unfold goT
   rw [hA,show isB (advG g t 2)=true from ho]
   simp
   omega
  have a1:advG g t 1=cntOf (g 0) (g 1) ((t+g 3)/3072):=by
   show cT (g 0) (g 1) (isB (g 2)) (g 3) t=_
   unfold cT
   rw [if_pos (gt t (by omega) (by omega))]
  have a3:advG g t 3=(t+g 3)%3072:=by
   show pT (g 0) (g 1) (isB (g 2)) (g 3) t=_
   unfold pT
   rw [if_pos (gt t (by omega) (by omega))]
  have r1:rndG g t=rndOf (g 0) (g 1) ((t+g 3)/3072):=by
   unfold rndG kT
   rw [if_pos (gt t (by omega) (by omega))]
  have r2:rndG (advG g t) n=rndOf (g 0) (cntOf (g 0) (g 1) ((t+g 3)/3072)) ((n+(t+g 3)%3072)/3072):=by
   unfold rndG kT
   rw [if_pos ga,a1,a3]
   rfl
  have r3:rndG g (t+n)=rndOf (g 0) (g 1) ((t+n+g 3)/3072):=by
   unfold rndG kT
   rw [if_pos (gt (t+n) (by omega) (by omega))]
  have k1:=rnd_is (g 0) (g 1) ((t+g 3)/3072) h0.1 h0.2.2.1
  have k2:=rnd_is (g 0) (cntOf (g 0) (g 1) ((t+g 3)/3072)) ((n+(t+g 3)%3072)/3072) h0.1 k1.2.1
  have k3:=is_parts (s:=(t+g 3)/3072) (t:=(n+(t+g 3)%3072)/3072) (by omega) k1 k2
  have es:(t+g 3)/3072+(n+(t+g 3)%3072)/3072=(t+n+g 3)/3072:=by omega
  have ep:(n+(t+g 3)%3072)%3072=(t+n+g 3)%3072:=by omega
  rw [es] at k3
  have k4:=is_eq h0.1 h0.2.2.1 k3
  refine ⟨?_,by rw [r1,r2,r3,k4.1];omega,by rw [r1];exact k1.1,by rw [r2];exact k2.1⟩
  funext j
  by_cases e1:j=1
  ·subst e1
   show cT (advG g t 0) (advG g t 1) (isB (advG g t 2)) (advG g t 3) n=cT (g 0) (g 1) (isB (g 2)) (g 3) (t+n)
   unfold cT
   rw [if_pos ga,if_pos (gt (t+n) (by omega) (by omega)),a1,a3,k4.2]
   rfl
  ·by_cases e3:j=3
   ·subst e3
    show pT (advG g t 0) (advG g t 1) (isB (advG g t 2)) (advG g t 3) n=pT (g 0) (g 1) (isB (g 2)) (g 3) (t+n)
    unfold pT
    rw [if_pos ga,if_pos (gt (t+n) (by omega) (by omega)),a3,ep]
   ·unfold advG
    rw [if_neg e1,if_neg e3,if_neg e1,if_neg e3,if_neg e1,if_neg e3]
theorem mT_in (m k:Int) (h:0≤m∧m<8):mT m k=m:=by unfold mT;split<;>omega
theorem lT_in (l k:Int) (h:0≤l∧l<8):0≤lT l k∧lT l k<8:=by
 unfold lT
 split
 ·exact or3_in l 4
 ·exact h
theorem lT_two (l a b:Int) (h:0≤l∧l<8) (a0:0≤a) (b0:0≤b):lT (lT l a) b=lT l (a+b):=by
 have q:or3 (or3 l 4) 4=or3 l 4:=all_8 (p:=fun l=>or3 (or3 l 4) 4=or3 l 4) (by decide +kernel) h.1 h.2
 unfold lT
 by_cases ha:0<a
 ·rw [if_pos ha,if_pos (show 0<a+b by omega)]
  split
  ·exact q
  ·rfl
 ·rw [if_neg ha,show a+b=b by omega]
theorem lT_bic (l k:Int) (h:0≤l∧l<8):bic3 (lT l k) 2=lT (bic3 l 2) k:=by
 unfold lT
 split
 ·exact all_8 (p:=fun l=>bic3 (or3 l 4) 2=or3 (bic3 l 2) 4) (by decide +kernel) h.1 h.2
 ·rfl
theorem lT_or (l k:Int) (h:0≤l∧l<8):or3 (lT l k) 2=lT (or3 l 2) k:=by
 unfold lT
 split
 ·exact all_8 (p:=fun l=>or3 (or3 l 4) 2=or3 (or3 l 2) 4) (by decide +kernel) h.1 h.2
 ·rfl
theorem good_set {Z:Nat→Nat→Int} (h:∀k,GZ k (Z k)):∀k,GZ k (setZ Z k):=by
 have h13:=(h 13).1
 refine good_up (good_up (good_up h 12 _ (adv_ok _ _ (h 12))) 13 _ ⟨⟨?_,?_⟩,rfl⟩) 17 _ ⟨by decide,rfl⟩
 ·show 0≤mT (Z 13 0) _∧mT (Z 13 0) _<8
  rw [mT_in _ _ h13.1]
  exact h13.1
 ·exact lT_in _ _ h13.2
theorem set_tick {Z:Nat→Nat→Int} (h:∀k,GZ k (Z k)) (n:Int) (n0:0≤n) (tn:Z 17 0+n≤8388608):setZ (upZ Z 17 (oneV (Z 17 0+n)))=tickZ (setZ Z) n:=by
 have k:=adv_parts (Z 12) (Z 17 0) n (h 12) (h 17).1.1 n0 tn
 have h13:=(h 13).1
 have e1:setZ (upZ Z 17 (oneV (Z 17 0+n)))=upZ (upZ (upZ Z 12 (advG (Z 12) (Z 17 0+n))) 13 (twoV (mT (Z 13 0) (rndG (Z 12) (Z 17 0+n))) (lT (Z 13 1) (rndG (Z 12) (Z 17 0+n))))) 17 (oneV 0):=by
  funext i
  by_cases e:i=17
  ·subst e;rfl
  ·by_cases e2:i=13
   ·subst e2;rfl
   ·by_cases e3:i=12
    ·subst e3;rfl
    ·simp [setZ,upZ,e,e2,e3]
 have e2:tickZ (setZ Z) n=upZ (upZ (upZ Z 12 (advG (advG (Z 12) (Z 17 0)) n)) 13 (twoV (mT (mT (Z 13 0) (rndG (Z 12) (Z 17 0))) (rndG (advG (Z 12) (Z 17 0)) n)) (lT (lT (Z 13 1) (rndG (Z 12) (Z 17 0))) (rndG (advG (Z 12) (Z 17 0)) n)))) 17 (oneV 0):=by
  funext i
  by_cases e:i=17
  ·subst e;rfl
  ·by_cases e2:i=13
   ·subst e2;rfl
   ·by_cases e3:i=12
    ·subst e3;rfl
    ·simp [tickZ,setZ,upZ,e,e2,e3]
 rw [e1,e2,k.1,mT_in _ _ h13.1,mT_in _ _ h13.1,mT_in _ _ h13.1,lT_two _ _ _ h13.2 k.2.2.1 k.2.2.2,show rndG (Z 12) (Z 17 0)+rndG (advG (Z 12) (Z 17 0)) n=rndG (Z 12) (Z 17 0+n) by have:=k.2.1;omega]
theorem set_look {Z:Nat→Nat→Int} (h:∀k,GZ k (Z k)):setZ (lookZ Z)=lookZ (setZ Z):=by
 have h13:=(h 13).1
 unfold lookZ
 rw [setZ_irq,setZ_up _ _ _ (by decide)]
 rw [show upZ Z 3 (oneV 0) 12=Z 12 from rfl,show upZ Z 3 (oneV 0) 17=Z 17 from rfl,setZ_13]
 congr 1
 show twoV (mT (Z 13 0%8) _) (lT (bic3 (Z 13 1) 2) _)=twoV (mT (Z 13 0) _%8) (bic3 (lT (Z 13 1) _) 2)
 rw [lT_bic _ _ h13.2,mT_in _ _ h13.1,show Z 13 0%8=Z 13 0 by omega,mT_in _ _ h13.1]
theorem set_tell {Z:Nat→Nat→Int} (h:∀k,GZ k (Z k)) (n:Int) (may:Bool):setZ (tellZ Z n may)=tellZ (setZ Z) n may:=by
 have h13:=(h 13).1
 have h13e:=(h 13).2
 unfold tellZ
 cases may with
 |false=>
  rw [if_neg (by decide),if_neg (by decide)]
  rw [show upZ (upZ Z 3 (oneV (bits .or .i64 (Z 3 0) n))) 13 (Z 13)=upZ Z 3 (oneV (bits .or .i64 (Z 3 0) n)) from upZ_id (upZ Z 3 (oneV (bits .or .i64 (Z 3 0) n))) 13]
  rw [setZ_up _ _ _ (by decide)]
  exact (upZ_id (upZ (setZ Z) 3 (oneV (bits .or .i64 (Z 3 0) n))) 13).symm
 |true=>
  rw [if_pos rfl,if_pos rfl,setZ_irq,setZ_up _ _ _ (by decide)]
  rw [show upZ Z 3 (oneV (bits .or .i64 (Z 3 0) n)) 12=Z 12 from rfl,show upZ Z 3 (oneV (bits .or .i64 (Z 3 0) n)) 17=Z 17 from rfl]
  show upZ (upZ (setZ Z) 3 _) 13 (twoV (mT (Z 13 0%8) _) (lT (or3 (Z 13 1) 2) _))=upZ (upZ (setZ Z) 3 _) 13 (twoV (mT (Z 13 0) _%8) (or3 (lT (Z 13 1) _) 2))
  rw [lT_or _ _ h13.2,mT_in _ _ h13.1,show Z 13 0%8=Z 13 0 by omega,mT_in _ _ h13.1]
  rfl
end Go.Proofs.YtnllcknfmciebaaGreatDoor.L24
