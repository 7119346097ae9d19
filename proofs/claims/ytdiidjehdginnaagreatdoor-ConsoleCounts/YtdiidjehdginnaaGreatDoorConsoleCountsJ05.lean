/- Texts without a word of the program, one behind the other. -/
import Derived.Test.YtdiidjehdginnaaGreatDoorRows
import Derived.Test.YtdiidjehdginnaaGreatDoorConsoleCountsJ02
namespace Go.Proofs.YtdiidjehdginnaaGreatDoor.P22
set_option maxHeartbeats 1600000
set_option maxRecDepth 20000
open Go.RowKit
set_option linter.unusedVariables false
variable {b k:Nat} {g:Nat→Bool} {f:Nat→Int} {w:World}
def zcE (g:Nat→Bool):Nat→Bool
 |0=>true
 |n+1=>zcE g n&&g n
theorem zdf :∀{n:Nat},zcE g n=true↔∀i,i<n→g i=true
 |0=>by simp [zcE]
 |n+1=>by
  rw [zcE,Bool.and_eq_true,zdf];constructor
  ·rintro ⟨h1,h2⟩ i hi
   by_cases e:i=n
   ·rw [e];exact h2
   ·exact h1 i (by omega)
  ·intro h;exact ⟨fun i hi=>h i (by omega),h n (by omega)⟩
theorem zjW {n i:Nat} (hi:i<n) (h:g i=false):zcE g n=false:=by
 rcases hb:zcE g n with _|_
 ·rfl
 ·rw [zdf.1 hb i hi] at h;cases h
def inB (n l m:Int):Bool:=decide (l≤n)&&decide (n≤m)
theorem zml {n l m:Int}:inB n l m=true↔l≤n∧n≤m:=by simp [inB]
theorem zli (n l m:Int) (w:World):Calls Tryz.prog 75 #[.agg #[.int .i64 n,.int .i64 l,.int .i64 m]] w fun e w'=>e=.returned (.bool (inB n l m))∧Below w.heap.size w w':=by
 by_cases h0:l≤n
 ·by_cases h1:n≤m
  ·have HQ:Hid (inB n l m=true):=hide (by simp [inB,h0,h1]);go_enter Tryz.func75,Tryz.ntmps75;go_wp2;go_ret;exact ⟨zbc HQ.out.symm,(Below.refl _ _).alloc (Nat.le_refl _) _⟩
  ·have HQ:Hid (inB n l m=false):=hide (by simp [inB,h1]);go_enter Tryz.func75,Tryz.ntmps75;go_wp2;go_ret;exact ⟨zbc HQ.out.symm,(Below.refl _ _).alloc (Nat.le_refl _) _⟩
 ·have HQ:Hid (inB n l m=false):=hide (by simp [inB,h0]);go_enter Tryz.func75,Tryz.ntmps75;go_wp2;go_ret;exact ⟨zbc HQ.out.symm,(Below.refl _ _).alloc (Nat.le_refl _) _⟩
theorem zia (n:Int) (w:World):Calls Tryz.prog 123 #[.int .i64 n] w fun e w'=>e=.returned (.bool (inB n 0 31))∧w'=w:=by
 by_cases h0:0≤n
 ·by_cases h1:n≤31
  ·have HQ:Hid (inB n 0 31=true):=hide (by simp [inB,h0,h1]);go_enter Tryz.func123,Tryz.ntmps123;go_wp2;go_ret;exact ⟨zbc HQ.out.symm,rfl⟩
  ·have HQ:Hid (inB n 0 31=false):=hide (by simp [inB,h1]);go_enter Tryz.func123,Tryz.ntmps123;go_wp2;go_ret;exact ⟨zbc HQ.out.symm,rfl⟩
 ·have HQ:Hid (inB n 0 31=false):=hide (by simp [inB,h0]);go_enter Tryz.func123,Tryz.ntmps123;go_wp2;go_ret;exact ⟨zbc HQ.out.symm,rfl⟩
theorem zjj (T:TypeId) (b N o n:Nat) (hn:n≤32) (hN:o+n≤N) (z:Nat→Int) (w:World) (h:HasF T w b N (iv z)):
  Calls Tryz.prog 122 #[.slice (some ⟨b,o,none⟩) n n,.func (.func 123) #[] #[]] w fun e w'=>e=.returned (.bool (zcE (fun i=>inB (z (o+i)) 0 31) n))∧w'=w:=by
 have HH:=hide h;have HN:=hide hN;clear h hN;go_enter Tryz.func122,Tryz.ntmps122;go_wp2;go_loopw [9] (fun i w'=>∃k:Nat,k≤n∧i=.int .i64 k∧(∀j,j<k→inB (z (o+j)) 0 31=true)∧w'=w) (fun i _=>n-(intOf i).toNat)
 case atStart=>exact ⟨0,Nat.zero_le _,rfl,fun j hj=>by omega,rfl⟩
 case round=>
  obtain ⟨k,hk,rfl,hall,hw⟩:=hrel;subst hw;have HA:=hide hall;clear hall
  by_cases hlt:k<n
  ·have c0:=HH.out.int (o+k) (by have:=HN.out;omega);rcases hb:inB (z (o+k)) 0 31 with _|_
   ·have HQ:=hide (zjW (g:=fun i=>inB (z (o+i)) 0 31) hlt hb);go_wp2_with (go_at_call 123;refine (zia _ _).mono ?_;rintro e w' ⟨rfl,hw⟩;subst w');go_ret;exact ⟨zbc HQ.out.symm,rfl⟩
   ·have HB:=hide hb;go_wp2_with (go_at_call 123;refine (zia _ _).mono ?_;rintro e w' ⟨rfl,hw⟩;subst w')
    exact ⟨⟨k+1,by omega,by go_num,fun j hj=>by
     by_cases e:j=k
     ·rw [e];exact HB.out
     ·exact HA.out j (by omega),trivial⟩,by simp [intOf];omega⟩
  ·have HQ:Hid (zcE (fun i=>inB (z (o+i)) 0 31) n=true):=hide (zdf.2 fun i hi=>HA.out i (by omega));go_wp2;go_ret;exact ⟨zbc HQ.out.symm,rfl⟩
theorem zdw (T:TypeId) (b n:Nat) (hn:n≤8) (z:Nat→Int) (w:World) (h:HasF T w b (n*3) (iv z)):
  Calls Tryz.prog 74 #[.slice (some ⟨b,0,none⟩) n n,.func (.func 75) #[] #[]] w fun e w'=>e=.returned (.bool (zcE (fun i=>inB (z (i*3)) (z (i*3+1)) (z (i*3+2))) n))∧Below w.heap.size w w':=by
 have HH:=hide h;clear h;go_enter Tryz.func74,Tryz.ntmps74;go_wp2;go_loopw [9] (fun i w'=>∃k:Nat,k≤n∧i=.int .i64 k∧(∀j,j<k→inB (z (j*3)) (z (j*3+1)) (z (j*3+2))=true)∧Below w.heap.size w w') (fun i _=>n-(intOf i).toNat)
 case atStart=>exact ⟨0,Nat.zero_le _,rfl,fun j hj=>by omega,Below.refl _ _⟩
 case round=>
  obtain ⟨k,hk,rfl,hall,hB⟩:=hrel;have HA:=hide hall;have HB:=hide hB;clear hall hB
  by_cases hlt:k<n
  ·have H2:=HH.out.next HB.out;have c0:=H2.int (k*3) (by omega);have c1:=H2.int (k*3+1) (by omega);have c2:=H2.int (k*3+2) (by omega);rcases hb:inB (z (k*3)) (z (k*3+1)) (z (k*3+2)) with _|_
   ·have HQ:=hide (zjW (g:=fun i=>inB (z (i*3)) (z (i*3+1)) (z (i*3+2))) hlt hb);go_wp2_with (go_at_call 75;refine (zli _ _ _ _).mono ?_;rintro e w' ⟨rfl,b1⟩);go_ret;exact ⟨zbc HQ.out.symm,zaz (HB.out.alloc HB.out.size _) b1⟩
   ·have HC:=hide hb;go_wp2_with (go_at_call 75;refine (zli _ _ _ _).mono ?_;rintro e w' ⟨rfl,b1⟩)
    exact ⟨⟨k+1,by omega,by go_num,fun j hj=>by
     by_cases e:j=k
     ·rw [e];exact HC.out
     ·exact HA.out j (by omega),zaz (HB.out.alloc HB.out.size _) b1⟩,by simp [intOf];omega⟩
  ·have HQ:Hid (zcE (fun i=>inB (z (i*3)) (z (i*3+1)) (z (i*3+2))) n=true):=hide (zdf.2 fun i hi=>HA.out i (by omega));go_wp2;go_ret;exact ⟨zbc HQ.out.symm,HB.out⟩
def okC (c:Nat→Int):Prop:=(0≤c 0∧c 0≤4095)∧(0≤c 1∧c 1≤255)∧(0≤c 2∧c 2≤255)∧(0≤c 3∧c 3≤255)∧(0≤c 36∧c 36≤31)∧(0≤c 37∧c 37≤16777215)∧(1≤c 38∧c 38≤262143)∧(0≤c 39∧c 39≤31)∧∀i,i<32→0≤c (4+i)∧c (4+i)≤31
def zbN (c:Nat→Int):List Int:=[c 0,0,4095,c 1,0,255,c 2,0,255,c 3,0,255,c 36,0,31,c 37,0,16777215,c 38,1,262143,c 39,0,31]
def chB (c:Nat→Int):Bool:=zcE (fun i=>inB ((zbN c).getD (i*3) 0) ((zbN c).getD (i*3+1) 0) ((zbN c).getD (i*3+2) 0)) 8&&zcE (fun i=>inB (c (4+i)) 0 31) 32
theorem zAu (c:Nat→Int):chB c=(zcE (fun i=>inB ((zbN c).getD (i*3) 0) ((zbN c).getD (i*3+1) 0) ((zbN c).getD (i*3+2) 0)) 8&&zcE (fun i=>inB (c (4+i)) 0 31) 32):=rfl
theorem zxV (c:Nat→Int):okC c↔chB c=true:=by
 rw [chB,Bool.and_eq_true,zdf (n:=32)];simp only [zml];simp only [zcE,zbN,Bool.and_eq_true,Bool.true_and,zml];unfold okC;constructor
 ·rintro ⟨h0,h1,h2,h3,h4,h5,h6,h7,h8⟩;exact ⟨⟨⟨⟨⟨⟨⟨⟨h0,h1⟩,h2⟩,h3⟩,h4⟩,h5⟩,h6⟩,h7⟩,h8⟩
 ·rintro ⟨⟨⟨⟨⟨⟨⟨⟨h0,h1⟩,h2⟩,h3⟩,h4⟩,h5⟩,h6⟩,h7⟩,h8⟩;exact ⟨h0,h1,h2,h3,h4,h5,h6,h7,h8⟩
theorem zfn (c:Nat→Value):(Tryz.prog.info? 46).map (·.size)=some (rowF c 40).size:=by
 rw [zai]
 kernel_rfl
theorem info_P (c:Nat→Value):(Tryz.prog.info? 49).map (·.size)=some (rowF c 244).size:=by
 rw [zai]
 kernel_rfl
theorem zeW (L:List Int) (n:Nat) (h:L.length=n):(L.map (Value.int .i64)).toArray=rowF (iv fun j=>L.getD j 0) n:=by
 subst h;unfold rowF iv
 congr 1
 apply List.ext_getElem?;intro j
 by_cases k:j<L.length
 ·simp [k]
 ·simp [k]
theorem zrr (a0 b0 c0 a1 b1 c1 a2 b2 c2 a3 b3 c3 a4 b4 c4 a5 b5 c5 a6 b6 c6 a7 b7 c7:Int) (w:World):(Instr.build 221 #[(0,.agg #[.int .i64 a0,.int .i64 b0,.int .i64 c0]),(1,.agg #[.int .i64 a1,.int .i64 b1,.int .i64 c1]),(2,.agg #[.int .i64 a2,.int .i64 b2,.int .i64 c2]),(3,.agg #[.int .i64 a3,.int .i64 b3,.int .i64 c3]),(4,.agg #[.int .i64 a4,.int .i64 b4,.int .i64 c4]),(5,.agg #[.int .i64 a5,.int .i64 b5,.int .i64 c5]),(6,.agg #[.int .i64 a6,.int .i64 b6,.int .i64 c6]),(7,.agg #[.int .i64 a7,.int .i64 b7,.int .i64 c7])]).run Tryz.prog w=.ok (.agg ([a0,b0,c0,a1,b1,c1,a2,b2,c2,a3,b3,c3,a4,b4,c4,a5,b5,c5,a6,b6,c6,a7,b7,c7].map (Value.int .i64)).toArray) w:=run_build w _ _ _ (by kernel_rfl)
theorem zwL (w:World):(zeroValue 221).run Tryz.prog w=.ok (.agg (rowF (iv fun _=>0) 24)) w:=by kernel_rfl
theorem zwM (L:List Int) (h:L.length=24):(Tryz.prog.info? 221).map (·.size)=some (L.map (Value.int .i64)).toArray.size:=by
 rw [List.size_toArray,List.length_map,h]
 kernel_rfl
theorem zrs (a0 b0 c0 a1 b1 c1 a2 b2 c2 a3 b3 c3:Int) (w:World):(Instr.build 164 #[(0,.agg #[.int .i64 a0,.int .i64 b0,.int .i64 c0]),(1,.agg #[.int .i64 a1,.int .i64 b1,.int .i64 c1]),(2,.agg #[.int .i64 a2,.int .i64 b2,.int .i64 c2]),(3,.agg #[.int .i64 a3,.int .i64 b3,.int .i64 c3])]).run Tryz.prog w=.ok (.agg ([a0,b0,c0,a1,b1,c1,a2,b2,c2,a3,b3,c3].map (Value.int .i64)).toArray) w:=run_build w _ _ _ (by kernel_rfl)
theorem zwN (w:World):(zeroValue 164).run Tryz.prog w=.ok (.agg (rowF (iv fun _=>0) 12)) w:=by kernel_rfl
theorem zwO (L:List Int) (h:L.length=12):(Tryz.prog.info? 164).map (·.size)=some (L.map (Value.int .i64)).toArray.size:=by
 rw [List.size_toArray,List.length_map,h]
 kernel_rfl
theorem zhB (L:List Int):(L.map (Value.int .i64)).toArray.all (·.oneCell')=true:=by
 rw [←Array.all_toList];simp [Value.oneCell']
theorem zrt (c:Nat→Int) (w:World):Calls Tryz.prog 77 #[.agg (rowF (iv c) 40)] w fun e w'=>e=.returned (.bool (chB c))∧Below w.heap.size w w':=by
 rw [zAu];obtain ⟨q,hq⟩:∃q,zcE (fun i=>inB ((zbN c).getD (i*3) 0) ((zbN c).getD (i*3+1) 0) ((zbN c).getD (i*3+2) 0)) 8=q:=⟨_,rfl⟩
 obtain ⟨r,hr⟩:∃r,zcE (fun i=>inB (c (4+i)) 0 31) 32=r:=⟨_,rfl⟩
 rw [hq,hr];have e0:=zbp (iv c) 40 0 (by decide);have e1:=zbp (iv c) 40 1 (by decide);have e2:=zbp (iv c) 40 2 (by decide);have e3:=zbp (iv c) 40 3 (by decide);have e36:=zbp (iv c) 40 36 (by decide);have e37:=zbp (iv c) 40 37 (by decide);have e38:=zbp (iv c) 40 38 (by decide);have e39:=zbp (iv c) 40 39 (by decide);cases q
 ·
  have K1:Hid (∀(u:World) (g:Nat),HasF 221 u g 24 (iv fun j=>(zbN c).getD j 0)→Calls Tryz.prog 74 #[.slice (some ⟨g,0,none⟩) 8 8,.func (.func 75) #[] #[]] u fun e w'=>e=.returned (.bool false)∧Below u.heap.size u w'):=hide (fun u g h=>(zdw _ g 8 (by decide) _ u h).mono fun e w' ⟨he,hb⟩=>⟨by rw [he,hq],hb⟩);have K2:Hid (∀(u:World) (g:Nat),HasF 46 u g 40 (iv c)→Calls Tryz.prog 122 #[.slice (some ⟨g,4,none⟩) 32 32,.func (.func 123) #[] #[]] u fun e w'=>e=.returned (.bool r)∧w'=u):=hide (fun u g h=>(zjj _ g 40 4 32 (by decide) (by decide) _ u h).mono fun e w' ⟨he,hb⟩=>⟨by rw [he,hr],hb⟩);clear hq hr;have HS:=hide (zbo 46 w 40 (iv c));generalize rowF (iv c) 40=R at *;simp only [iv] at e0 e1 e2 e3 e36 e37 e38 e39;go_enter Tryz.func77,Tryz.ntmps77
  go_wp2_with (first
   |(refine wpList_built rfl 221 _ rfl #[(0,.agg #[.int .i64 (c 0),.int .i64 0,.int .i64 4095]),(1,.agg #[.int .i64 (c 1),.int .i64 0,.int .i64 255]),(2,.agg #[.int .i64 (c 2),.int .i64 0,.int .i64 255]),(3,.agg #[.int .i64 (c 3),.int .i64 0,.int .i64 255]),(4,.agg #[.int .i64 (c 36),.int .i64 0,.int .i64 31]),(5,.agg #[.int .i64 (c 37),.int .i64 0,.int .i64 16777215]),(6,.agg #[.int .i64 (c 38),.int .i64 1,.int .i64 262143]),(7,.agg #[.int .i64 (c 39),.int .i64 0,.int .i64 31])] (by simp [Act.eval]) ((zbN c).map (Value.int .i64)).toArray (zrr _ _ _ _ _ _ _ _ _ _ _ _ _ _ _ _ _ _ _ _ _ _ _ _) ?_)
   |(refine zav rfl 221 rfl (rowF (iv fun _=>0) 24) zwL ?_)
   |(refine wpList_store_row rfl 221 (.tmp 3) (.tmp 28) rfl (w.heap.size+1) _ (by simp [Act.eval,Act.put]) rfl 221 _ (zcn _ _ _ _ _) (zwM _ rfl) (by rw [zai];rfl) (zhB _) ?_
     refine zaj fun w2 hw2=>?_
     have M1:Hid (HasF 221 w2 (w.heap.size+1) 24 (iv fun j=>(zbN c).getD j 0)):=hide (by rw [hw2,HasF,←zeW (zbN c) 24 rfl];exact setRow_heap _ _ _ _ _ _ (zcn _ _ _ _ _));have M2:Hid (HasF 46 w2 w.heap.size 40 (iv c)):=hide (by rw [hw2];exact (HS.out.next ((Below.refl _ _).alloc (Nat.le_refl _) _)).row _ (by omega));have MB:Hid (Below w.heap.size w w2):=hide (by rw [hw2];exact below_setRow (((Below.refl _ _).alloc (Nat.le_refl _) _).alloc (by simp) _) (by simp) _)
     clear hw2 HS)
   |(go_at_call 74;refine (K1.out _ _ M1.out).mono ?_;rintro e w3 ⟨rfl,b3⟩;replace M2:=hide (M2.out.next b3);replace MB:=hide (zaz MB.out b3);clear b3 M1)
   |(go_at_call 122;refine (K2.out _ _ M2.out).mono ?_;rintro e w4 ⟨rfl,hw⟩;subst w4))
  go_ret;exact ⟨rfl,MB.out⟩
 ·
  have K1:Hid (∀(u:World) (g:Nat),HasF 221 u g 24 (iv fun j=>(zbN c).getD j 0)→Calls Tryz.prog 74 #[.slice (some ⟨g,0,none⟩) 8 8,.func (.func 75) #[] #[]] u fun e w'=>e=.returned (.bool true)∧Below u.heap.size u w'):=hide (fun u g h=>(zdw _ g 8 (by decide) _ u h).mono fun e w' ⟨he,hb⟩=>⟨by rw [he,hq],hb⟩);have K2:Hid (∀(u:World) (g:Nat),HasF 46 u g 40 (iv c)→Calls Tryz.prog 122 #[.slice (some ⟨g,4,none⟩) 32 32,.func (.func 123) #[] #[]] u fun e w'=>e=.returned (.bool r)∧w'=u):=hide (fun u g h=>(zjj _ g 40 4 32 (by decide) (by decide) _ u h).mono fun e w' ⟨he,hb⟩=>⟨by rw [he,hr],hb⟩);clear hq hr;have HS:=hide (zbo 46 w 40 (iv c));generalize rowF (iv c) 40=R at *;simp only [iv] at e0 e1 e2 e3 e36 e37 e38 e39;go_enter Tryz.func77,Tryz.ntmps77
  go_wp2_with (first
   |(refine wpList_built rfl 221 _ rfl #[(0,.agg #[.int .i64 (c 0),.int .i64 0,.int .i64 4095]),(1,.agg #[.int .i64 (c 1),.int .i64 0,.int .i64 255]),(2,.agg #[.int .i64 (c 2),.int .i64 0,.int .i64 255]),(3,.agg #[.int .i64 (c 3),.int .i64 0,.int .i64 255]),(4,.agg #[.int .i64 (c 36),.int .i64 0,.int .i64 31]),(5,.agg #[.int .i64 (c 37),.int .i64 0,.int .i64 16777215]),(6,.agg #[.int .i64 (c 38),.int .i64 1,.int .i64 262143]),(7,.agg #[.int .i64 (c 39),.int .i64 0,.int .i64 31])] (by simp [Act.eval]) ((zbN c).map (Value.int .i64)).toArray (zrr _ _ _ _ _ _ _ _ _ _ _ _ _ _ _ _ _ _ _ _ _ _ _ _) ?_)
   |(refine zav rfl 221 rfl (rowF (iv fun _=>0) 24) zwL ?_)
   |(refine wpList_store_row rfl 221 (.tmp 3) (.tmp 28) rfl (w.heap.size+1) _ (by simp [Act.eval,Act.put]) rfl 221 _ (zcn _ _ _ _ _) (zwM _ rfl) (by rw [zai];rfl) (zhB _) ?_
     refine zaj fun w2 hw2=>?_
     have M1:Hid (HasF 221 w2 (w.heap.size+1) 24 (iv fun j=>(zbN c).getD j 0)):=hide (by rw [hw2,HasF,←zeW (zbN c) 24 rfl];exact setRow_heap _ _ _ _ _ _ (zcn _ _ _ _ _));have M2:Hid (HasF 46 w2 w.heap.size 40 (iv c)):=hide (by rw [hw2];exact (HS.out.next ((Below.refl _ _).alloc (Nat.le_refl _) _)).row _ (by omega));have MB:Hid (Below w.heap.size w w2):=hide (by rw [hw2];exact below_setRow (((Below.refl _ _).alloc (Nat.le_refl _) _).alloc (by simp) _) (by simp) _)
     clear hw2 HS)
   |(go_at_call 74;refine (K1.out _ _ M1.out).mono ?_;rintro e w3 ⟨rfl,b3⟩;replace M2:=hide (M2.out.next b3);replace MB:=hide (zaz MB.out b3);clear b3 M1)
   |(go_at_call 122;refine (K2.out _ _ M2.out).mono ?_;rintro e w4 ⟨rfl,hw⟩;subst w4))
  go_ret;exact ⟨zbc (Bool.true_and _).symm,MB.out⟩
def ch (f:Nat→Int) (k j:Nat):Int:=f (4+k*40+j)
def okP (f:Nat→Int):Prop:=(0≤f 0∧f 0≤7)∧(0≤f 1∧f 1≤255)∧(0≤f 2∧f 2≤255)∧(0≤f 3∧f 3≤255)∧∀k,k<6→okC (ch f k)
def zbO (f:Nat→Int):List Int:=[f 0,0,7,f 1,0,255,f 2,0,255,f 3,0,255]
def vB (f:Nat→Int):Bool:=zcE (fun i=>inB ((zbO f).getD (i*3) 0) ((zbO f).getD (i*3+1) 0) ((zbO f).getD (i*3+2) 0)) 4&&zcE (fun k=>chB (ch f k)) 6
theorem vB_is (f:Nat→Int):vB f=(zcE (fun i=>inB ((zbO f).getD (i*3) 0) ((zbO f).getD (i*3+1) 0) ((zbO f).getD (i*3+2) 0)) 4&&zcE (fun k=>chB (ch f k)) 6):=rfl
theorem vB_iff (f:Nat→Int):okP f↔vB f=true:=by
 rw [vB,Bool.and_eq_true,zdf (n:=6)];simp only [←zxV];simp only [zcE,zbO,Bool.and_eq_true,Bool.true_and,zml];unfold okP;constructor
 ·rintro ⟨h0,h1,h2,h3,h4⟩;exact ⟨⟨⟨⟨h0,h1⟩,h2⟩,h3⟩,h4⟩
 ·rintro ⟨⟨⟨⟨h0,h1⟩,h2⟩,h3⟩,h4⟩;exact ⟨h0,h1,h2,h3,h4⟩
theorem zno (w:World):(zeroValue 46).run Tryz.prog w=.ok (.agg (rowF (iv fun _=>0) 40)) w:=by kernel_rfl
theorem zgF:(Tryz.prog.info? 46).map (·.size)=some 40:=by kernel_rfl
theorem zib (b:Nat) (f:Nat→Int) (w:World) (h:HasF 49 w b 244 (iv f)):
  Calls Tryz.prog 76 #[.slice (some ⟨b,4,none⟩) 6 6,.func (.func 77) #[] #[]] w fun e w'=>e=.returned (.bool (zcE (fun k=>chB (ch f k)) 6))∧Below w.heap.size w w':=by
 have HH:=hide h;clear h;go_enter Tryz.func76,Tryz.ntmps76;go_wp2;go_loopw [9] (fun i w'=>∃k:Nat,k≤6∧i=.int .i64 k∧(∀j,j<k→chB (ch f j)=true)∧Below w.heap.size w w') (fun i _=>6-(intOf i).toNat)
 case atStart=>exact ⟨0,Nat.zero_le _,rfl,fun j hj=>by omega,Below.refl _ _⟩
 case round=>
  obtain ⟨k,hk,rfl,hall,hB⟩:=hrel;have HA:=hide hall;have HB:=hide hB;clear hall hB
  by_cases hlt:k<6
  ·have H2:=hide (HH.out.next HB.out);have K1:=hide (fun u=>zrt (ch f k) u);rcases hb:chB (ch f k) with _|_
   ·have HQ:=hide (zjW (g:=fun k=>chB (ch f k)) hlt hb);rw [hb] at K1;clear hb;go_wp2_with (first|(refine zcK rfl 46 (.tmp 11) rfl b (4+k*40) rfl H2.out 40 (by omega) _ Tryz.underlying46 rfl zgF ?_)|(refine zav rfl 46 rfl (rowF (iv fun _=>0) 40) zno ?_)|(refine wpList_store_row rfl 46 (.tmp 6) (.tmp 12) rfl wr.heap.size (rowF (iv (ch f k)) 40) (by simp [Act.eval,Act.put]) rfl 46 _ (zbo _ _ _ _) (zfn _) (by rw [zai,zai]) (zby _ _) ?_;refine zaj fun w2 hw2=>?_;have M1:Hid (HasF 46 w2 wr.heap.size 40 (iv (ch f k))):=hide (by rw [hw2];exact setRow_heap _ _ _ _ _ _ (zbo _ _ _ _));have MB:Hid (Below w.heap.size w w2):=hide (by rw [hw2];exact below_setRow (HB.out.alloc HB.out.size _) HB.out.size _);clear hw2)|(refine wpList_load_row rfl 46 (.tmp 6) rfl wr.heap.size rfl _ _ _ _ M1.out Tryz.underlying46 rfl (zfn _) ?_)|(go_at_call 77;refine (K1.out _).mono ?_;rintro e w3 ⟨rfl,b3⟩;replace MB:=hide (zaz MB.out b3);clear b3));go_ret;exact ⟨zbc HQ.out.symm,MB.out⟩
   ·have HC:=hide hb;rw [hb] at K1;clear hb;go_wp2_with (first|(refine zcK rfl 46 (.tmp 11) rfl b (4+k*40) rfl H2.out 40 (by omega) _ Tryz.underlying46 rfl zgF ?_)|(refine zav rfl 46 rfl (rowF (iv fun _=>0) 40) zno ?_)|(refine wpList_store_row rfl 46 (.tmp 6) (.tmp 12) rfl wr.heap.size (rowF (iv (ch f k)) 40) (by simp [Act.eval,Act.put]) rfl 46 _ (zbo _ _ _ _) (zfn _) (by rw [zai,zai]) (zby _ _) ?_;refine zaj fun w2 hw2=>?_;have M1:Hid (HasF 46 w2 wr.heap.size 40 (iv (ch f k))):=hide (by rw [hw2];exact setRow_heap _ _ _ _ _ _ (zbo _ _ _ _));have MB:Hid (Below w.heap.size w w2):=hide (by rw [hw2];exact below_setRow (HB.out.alloc HB.out.size _) HB.out.size _);clear hw2)|(refine wpList_load_row rfl 46 (.tmp 6) rfl wr.heap.size rfl _ _ _ _ M1.out Tryz.underlying46 rfl (zfn _) ?_)|(go_at_call 77;refine (K1.out _).mono ?_;rintro e w3 ⟨rfl,b3⟩;replace MB:=hide (zaz MB.out b3);clear b3))
    exact ⟨⟨k+1,by omega,by go_num,fun j hj=>by
     by_cases e:j=k
     ·rw [e];exact HC.out
     ·exact HA.out j (by omega),MB.out⟩,by simp [intOf];omega⟩
  ·have HQ:Hid (zcE (fun k=>chB (ch f k)) 6=true):=hide (zdf.2 fun i hi=>HA.out i (by omega));go_wp2;go_ret;exact ⟨zbc HQ.out.symm,HB.out⟩
theorem valid_any (f:Nat→Int) (w:World):Calls Tryz.prog 39 #[.agg (rowF (iv f) 244)] w fun e w'=>e=.returned (.bool (vB f))∧Below w.heap.size w w':=by
 rw [vB_is];obtain ⟨q,hq⟩:∃q,zcE (fun i=>inB ((zbO f).getD (i*3) 0) ((zbO f).getD (i*3+1) 0) ((zbO f).getD (i*3+2) 0)) 4=q:=⟨_,rfl⟩
 obtain ⟨r,hr⟩:∃r,zcE (fun k=>chB (ch f k)) 6=r:=⟨_,rfl⟩
 rw [hq,hr];have e0:=zbp (iv f) 244 0 (by decide);have e1:=zbp (iv f) 244 1 (by decide);have e2:=zbp (iv f) 244 2 (by decide);have e3:=zbp (iv f) 244 3 (by decide);cases q
 ·
  have K1:Hid (∀(u:World) (g:Nat),HasF 164 u g 12 (iv fun j=>(zbO f).getD j 0)→Calls Tryz.prog 74 #[.slice (some ⟨g,0,none⟩) 4 4,.func (.func 75) #[] #[]] u fun e w'=>e=.returned (.bool false)∧Below u.heap.size u w'):=hide (fun u g h=>(zdw _ g 4 (by decide) _ u h).mono fun e w' ⟨he,hb⟩=>⟨by rw [he,hq],hb⟩);have K2:Hid (∀(u:World) (g:Nat),HasF 49 u g 244 (iv f)→Calls Tryz.prog 76 #[.slice (some ⟨g,4,none⟩) 6 6,.func (.func 77) #[] #[]] u fun e w'=>e=.returned (.bool r)∧Below u.heap.size u w'):=hide (fun u g h=>(zib g f u h).mono fun e w' ⟨he,hb⟩=>⟨by rw [he,hr],hb⟩);clear hq hr;have HS:=hide (zbo 49 w 244 (iv f));generalize rowF (iv f) 244=R at *;simp only [iv] at e0 e1 e2 e3;go_enter Tryz.func39,Tryz.ntmps39
  go_wp2_with (first
   |(refine wpList_built rfl 164 _ rfl #[(0,.agg #[.int .i64 (f 0),.int .i64 0,.int .i64 7]),(1,.agg #[.int .i64 (f 1),.int .i64 0,.int .i64 255]),(2,.agg #[.int .i64 (f 2),.int .i64 0,.int .i64 255]),(3,.agg #[.int .i64 (f 3),.int .i64 0,.int .i64 255])] (by simp [Act.eval]) ((zbO f).map (Value.int .i64)).toArray (zrs _ _ _ _ _ _ _ _ _ _ _ _) ?_)
   |(refine zav rfl 164 rfl (rowF (iv fun _=>0) 12) zwN ?_)
   |(refine wpList_store_row rfl 164 (.tmp 3) (.tmp 16) rfl (w.heap.size+1) _ (by simp [Act.eval,Act.put]) rfl 164 _ (zcn _ _ _ _ _) (zwO _ rfl) (by rw [zai];rfl) (zhB _) ?_
     refine zaj fun w2 hw2=>?_
     have M1:Hid (HasF 164 w2 (w.heap.size+1) 12 (iv fun j=>(zbO f).getD j 0)):=hide (by rw [hw2,HasF,←zeW (zbO f) 12 rfl];exact setRow_heap _ _ _ _ _ _ (zcn _ _ _ _ _));have M2:Hid (HasF 49 w2 w.heap.size 244 (iv f)):=hide (by rw [hw2];exact (HS.out.next ((Below.refl _ _).alloc (Nat.le_refl _) _)).row _ (by omega));have MB:Hid (Below w.heap.size w w2):=hide (by rw [hw2];exact below_setRow (((Below.refl _ _).alloc (Nat.le_refl _) _).alloc (by simp) _) (by simp) _)
     clear hw2 HS)
   |(go_at_call 74;refine (K1.out _ _ M1.out).mono ?_;rintro e w3 ⟨rfl,b3⟩;replace M2:=hide (M2.out.next b3);replace MB:=hide (zaz MB.out b3);clear b3 M1)
   |(go_at_call 76;refine (K2.out _ _ M2.out).mono ?_;rintro e w4 ⟨rfl,b4⟩;replace MB:=hide (zaz MB.out b4);clear b4))
  go_ret;exact ⟨rfl,MB.out⟩
 ·
  have K1:Hid (∀(u:World) (g:Nat),HasF 164 u g 12 (iv fun j=>(zbO f).getD j 0)→Calls Tryz.prog 74 #[.slice (some ⟨g,0,none⟩) 4 4,.func (.func 75) #[] #[]] u fun e w'=>e=.returned (.bool true)∧Below u.heap.size u w'):=hide (fun u g h=>(zdw _ g 4 (by decide) _ u h).mono fun e w' ⟨he,hb⟩=>⟨by rw [he,hq],hb⟩);have K2:Hid (∀(u:World) (g:Nat),HasF 49 u g 244 (iv f)→Calls Tryz.prog 76 #[.slice (some ⟨g,4,none⟩) 6 6,.func (.func 77) #[] #[]] u fun e w'=>e=.returned (.bool r)∧Below u.heap.size u w'):=hide (fun u g h=>(zib g f u h).mono fun e w' ⟨he,hb⟩=>⟨by rw [he,hr],hb⟩);clear hq hr;have HS:=hide (zbo 49 w 244 (iv f));generalize rowF (iv f) 244=R at *;simp only [iv] at e0 e1 e2 e3;go_enter Tryz.func39,Tryz.ntmps39
  go_wp2_with (first
   |(refine wpList_built rfl 164 _ rfl #[(0,.agg #[.int .i64 (f 0),.int .i64 0,.int .i64 7]),(1,.agg #[.int .i64 (f 1),.int .i64 0,.int .i64 255]),(2,.agg #[.int .i64 (f 2),.int .i64 0,.int .i64 255]),(3,.agg #[.int .i64 (f 3),.int .i64 0,.int .i64 255])] (by simp [Act.eval]) ((zbO f).map (Value.int .i64)).toArray (zrs _ _ _ _ _ _ _ _ _ _ _ _) ?_)
   |(refine zav rfl 164 rfl (rowF (iv fun _=>0) 12) zwN ?_)
   |(refine wpList_store_row rfl 164 (.tmp 3) (.tmp 16) rfl (w.heap.size+1) _ (by simp [Act.eval,Act.put]) rfl 164 _ (zcn _ _ _ _ _) (zwO _ rfl) (by rw [zai];rfl) (zhB _) ?_
     refine zaj fun w2 hw2=>?_
     have M1:Hid (HasF 164 w2 (w.heap.size+1) 12 (iv fun j=>(zbO f).getD j 0)):=hide (by rw [hw2,HasF,←zeW (zbO f) 12 rfl];exact setRow_heap _ _ _ _ _ _ (zcn _ _ _ _ _));have M2:Hid (HasF 49 w2 w.heap.size 244 (iv f)):=hide (by rw [hw2];exact (HS.out.next ((Below.refl _ _).alloc (Nat.le_refl _) _)).row _ (by omega));have MB:Hid (Below w.heap.size w w2):=hide (by rw [hw2];exact below_setRow (((Below.refl _ _).alloc (Nat.le_refl _) _).alloc (by simp) _) (by simp) _)
     clear hw2 HS)
   |(go_at_call 74;refine (K1.out _ _ M1.out).mono ?_;rintro e w3 ⟨rfl,b3⟩;replace M2:=hide (M2.out.next b3);replace MB:=hide (zaz MB.out b3);clear b3 M1)
   |(go_at_call 76;refine (K2.out _ _ M2.out).mono ?_;rintro e w4 ⟨rfl,b4⟩;replace MB:=hide (zaz MB.out b4);clear b4))
  go_ret;exact ⟨zbc (Bool.true_and _).symm,MB.out⟩
theorem zfR (n k:Int) (w:World):Calls Tryz.prog 162 #[.int .i64 n,.int .i64 k] w fun e w'=>e=Ending.returned (.bool (zaV n k==1))∧w'=w:=by
 have K:=hide (fun w=>zaZ n k w);generalize zaV n k=x at *;go_enter Tryz.func162,Tryz.ntmps162;go_wp2_with (go_at_call 68;refine (K.out _).mono ?_;rintro e w' ⟨rfl,hw⟩;subst w');go_ret;exact ⟨rfl,rfl⟩
theorem zAv {n:Int} (h0:0≤n) (h1:n≤255):(zaV n 7==1)=decide (128≤n):=by
 have e:zaV n 7=n%65536/128%2:=rfl;rw [e,Bool.eq_iff_iff,beq_iff_eq,decide_eq_true_iff];omega
theorem zAw {n:Int} (h0:0≤n) (h1:n≤255):(zaV n 6==1)=decide (n/64%2=1):=by
 have e:zaV n 6=n%65536/64%2:=rfl;rw [e,Bool.eq_iff_iff,beq_iff_eq,decide_eq_true_iff];omega
theorem zxW {n:Int} (h0:0≤n) (h1:n≤255) (w:World):Calls Tryz.prog 162 #[.int .i64 n,.int .i64 7] w fun e w'=>e=Ending.returned (.bool (decide (128≤n)))∧w'=w:=by
 rw [←zAv h0 h1];exact zfR n 7 w
theorem zAx {n:Int} (h0:0≤n) (h1:n≤255) (w:World):Calls Tryz.prog 162 #[.int .i64 n,.int .i64 6] w fun e w'=>e=Ending.returned (.bool (decide (n/64%2=1)))∧w'=w:=by
 rw [←zAw h0 h1];exact zfR n 6 w
theorem zru (n:Int):bits .and .i64 n 31=n%32:=zbt 5 (by decide) n
theorem zlj (n:Int):bits .and .i64 n 4095=n%4096:=zbt 12 (by decide) n
theorem znp (b o:Nat) (x n:Int) (w:World) (c:w.cell? ⟨b,o+36,none⟩=some (.int .i64 x)) (fr:w.frozen? ⟨b,o+36,none⟩=false) (x0:0≤x) (x1:x≤31) (n0:0≤n) (n1:n≤16777670):
  Calls Tryz.prog 222 #[.pointer (some ⟨b,o,none⟩),.int .i64 n] w fun e w'=>e=Ending.returned (.tuple #[])∧w'=w.setCell ⟨b,o+36,none⟩ (.int .i64 ((x+n)%32)):=by
 have m:=zru (x+n);go_enter Tryz.func222,Tryz.ntmps222;go_wp2;go_end0;exact ⟨rfl,rfl⟩
def two (x y:Int):Nat→Int:=fun j=>if j=0 then x else y
def zdg (n:Nat):Nat→Int:=fun i=>if 4≤i∧(i-4)/40<n∧(i-4)%40=38 then 1 else 0
def zcO:Nat→Int:=zdg 6
theorem zoR (k:Nat):up (zdg k) (4+k*40+38) 1=zdg (k+1):=by
 funext i;unfold up zdg
 by_cases h:i=4+k*40+38
 ·rw [if_pos h,if_pos (by omega)]
 ·rw [if_neg h]
  by_cases h2:4≤i∧(i-4)/40<k∧(i-4)%40=38
  ·rw [if_pos h2,if_pos (by omega)]
  ·rw [if_neg h2,if_neg (by omega)]
theorem zxX:zdg 0=fun _=>0:=by
 funext i;unfold zdg;rw [if_neg (by omega)]
theorem zeX (i:Nat) (h:i<4):zcO i=0:=by
 unfold zcO zdg;rw [if_neg (by omega)]
theorem zcV (k j:Nat) (hk:k<6) (hj:j<40):ch zcO k j=if j=38 then 1 else 0:=by
 unfold ch zcO zdg
 by_cases h:j=38
 ·rw [if_pos h,if_pos (by omega)]
 ·rw [if_neg h,if_neg (by omega)]
theorem zuL:okP zcO:=by
 unfold okP;rw [zeX 0 (by decide),zeX 1 (by decide),zeX 2 (by decide),zeX 3 (by decide)];refine ⟨by decide,by decide,by decide,by decide,fun k hk=>?_⟩;unfold okC;rw [zcV k 0 hk (by decide),zcV k 1 hk (by decide),zcV k 2 hk (by decide),zcV k 3 hk (by decide),zcV k 36 hk (by decide),zcV k 37 hk (by decide),zcV k 38 hk (by decide),zcV k 39 hk (by decide)];refine ⟨by decide,by decide,by decide,by decide,by decide,by decide,by decide,by decide,fun i hi=>?_⟩;rw [zcV k (4+i) hk (by omega),if_neg (by omega)]
 decide
theorem zero_P (w:World):(zeroValue 49).run Tryz.prog w=.ok (.agg (rowF (iv fun _=>0) 244)) w:=by kernel_rfl
theorem fresh_any (w:World):Calls Tryz.prog 52 #[] w fun e w'=>e=Ending.returned (.agg (rowF (iv zcO) 244))∧Below w.heap.size w w':=by
 go_enter Tryz.func52,Tryz.ntmps52
 go_wp2_with (first
  |(refine zav rfl 49 rfl (rowF (iv fun _=>0) 244) zero_P ?_))
 refine under_name fun wa hwa=>?_
 obtain ⟨n0,n1,n2,n3⟩:=two_named hwa;have R0:Hid (HasF 49 wa w.heap.size 244 (iv fun _=>0)):=hide n0;have H0:Hid (HasF 49 wa (w.heap.size+1) 244 (iv (zdg 0))):=hide (by rw [zxX];exact n1);have B0:=hide n3;clear n0 n1 n2 n3 hwa;generalize hs:w.heap.size=s0 at *;go_loopw [3] (fun i w'=>∃k:Nat,k≤6∧i=.int .i64 k∧HasF 49 w' (s0+1) 244 (iv (zdg k))∧HasF 49 w' s0 244 (iv fun _=>0)∧Below s0 w w') (fun i _=>6-(intOf i).toNat)
 case atStart=>exact ⟨0,by decide,rfl,H0.out,R0.out,B0.out⟩
 case round=>
  clear H0 R0 B0;obtain ⟨k,hk,rfl,h1,r1,b1⟩:=hrel;have H1:=hide h1;have R1:=hide r1;have B1:=hide b1
  by_cases hlt:k<6
  ·have c:=h1.int (4+k*40+38) (by omega);have z:=h1.frozen (4+k*40+38);clear h1 r1 b1;go_wp2_with fail;exact ⟨⟨k+1,by omega,by go_num,by rw [←zoR];exact H1.out.up _ _,R1.out.other _ _ (by simp),Below.setCell (p:=⟨s0+1,4+k*40+38,none⟩) B1.out (Nat.le_succ _) _⟩,by simp [intOf];omega⟩
  ·obtain rfl:k=6:=by omega
   clear h1 r1 b1;obtain ⟨F,hF⟩:∃F,F=zdg 6:=⟨_,rfl⟩
   rw [←hF] at H1;replace hF:=hide hF
   go_wp2_with (first
    |(refine wpList_load_row rfl 49 (.tmp 1) rfl (s0+1) rfl _ _ _ _ H1.out Tryz.underlying49 rfl (info_P _) ?_)
    |(refine wpList_store_row rfl 49 (.tmp 0) (.tmp 11) rfl s0 _ rfl rfl 49 _ R1.out (info_P _) (by rw [zai,zai]) (zby _ _) ?_))
   refine bodyPost_ret (results_cell_row rfl _ _ s0 49 _ (0,0) _ rfl (setRow_heap _ _ _ _ _ _ R1.out) Tryz.underlying49 rfl (info_P _)) rfl ?_;exact ⟨by rw [hF.out];rfl,by rw [hs];exact below_setRow B1.out (Nat.le_refl _) _⟩
def zlk (f:Nat→Int) (k:Nat) (v:Int):Nat→Int:=
 if ch f k 1/64%2=1 then up f (4+k*40+39) v else up (up f (4+k*40+(4+(ch f k 36).toNat)) v) (4+k*40+36) ((ch f k 36+1)%32)
def chW (f:Nat→Int) (k:Nat) (at_ b:Int):Nat→Int:=
 if at_=2 then up f (4+k*40) (ch f k 0/256*256+b)
 else if at_=3 then up f (4+k*40) (ch f k 0%256+b%16*256)
 else if at_=4 then (if b/64=1 then up (up f (4+k*40+1) b) (4+k*40+36) 0 else up f (4+k*40+1) b)
 else if at_=5 then up f (4+k*40+2) b
 else if at_=6 then zlk f k (b%32)
 else if at_=7 then (if 4≤k then up f (4+k*40+3) b else f)
 else f
def wrF (f:Nat→Int) (at_ b:Int):Nat→Int:=
 if at_=0 then up f 0 (b%256%8) else if at_=1 then up f 1 (b%256) else if at_=8 then up f 2 (b%256) else if at_=9 then up f 3 (b%256)
 else if f 0<6 then chW f (f 0).toNat at_ (b%256) else f
theorem zfS (h:okP f) (hk:k<6):okC (ch f k):=h.2.2.2.2 k hk
theorem zhf (h:HasF 49 w b 244 (iv f)) (hk:k<6) (j:Nat) (hj:j<40):w.cell? ⟨b,4+k*40+j,none⟩=some (.int .i64 (ch f k j)):=h.int (4+k*40+j) (by omega)
theorem zed (h:HasF 49 w b 244 (iv f)) (hk:k<6):w.cell? ⟨b,4+k*40,none⟩=some (.int .i64 (ch f k 0)):=h.int (4+k*40) (by omega)
theorem zuM (h:HasF 49 w b 244 (iv f)) (hk:k<6) (ok:okP f) (v:Int):Calls Tryz.prog 269 #[.pointer (some ⟨b,4+k*40,none⟩),.int .i64 v] w fun e w'=>e=Ending.returned (.tuple #[])∧HasF 49 w' b 244 (iv (zlk f k v))∧But b w w':=by
 obtain ⟨x0,x1,x2,x3,x4,x5,x6,x7,x8⟩:=zfS ok hk;have c1:=zhf h hk 1 (by decide);have c36:=zhf h hk 36 (by decide);have K6:=hide (fun w=>zAx x1.1 x1.2 w);have HH:=hide h
 by_cases hd:ch f k 1/64%2=1
 ·have c39:=zhf h hk 39 (by decide);have z39:=h.frozen (4+k*40+39);have HE:Hid (HasF 49 (w.setCell ⟨b,4+k*40+39,none⟩ (.int .i64 v)) b 244 (iv (zlk f k v))):=hide (by unfold zlk;rw [if_pos hd];exact h.up _ _);rw [show decide (ch f k 1/64%2=1)=true by simp [hd]] at K6;clear h x8 hd c36;generalize ch f k 1=y at *;generalize ch f k 39=y39 at *;generalize 4+k*40=o at *;go_enter Tryz.func269,Tryz.ntmps269;go_wp2_with (go_at_call 162;refine (K6.out _).mono ?_;rintro e w' ⟨rfl,hw⟩;subst w');refine bodyPost_ret (results_none rfl _ _ _) rfl ?_;exact ⟨rfl,HE.out,(But.refl _ _).set _ _⟩
 ·have cw:=zhf h hk (4+(ch f k 36).toNat) (by omega);have zw:=h.frozen (4+k*40+(4+(ch f k 36).toNat));have z36:=h.frozen (4+k*40+36)
  have HE:Hid (HasF 49 ((w.setCell ⟨b,4+k*40+(4+(ch f k 36).toNat),none⟩ (.int .i64 v)).drew.setCell ⟨b,4+k*40+36,none⟩ (.int .i64 ((ch f k 36+1)%32))) b 244 (iv (zlk f k v))):=hide (by
   unfold zlk;rw [if_neg hd];have h1:HasF 49 (w.setCell ⟨b,4+k*40+(4+(ch f k 36).toNat),none⟩ (.int .i64 v)).drew b 244 (iv (up f (4+k*40+(4+(ch f k 36).toNat)) v)):=h.up _ _
   exact h1.up _ _)
  have CE:Hid ((w.setCell ⟨b,4+k*40+(4+(ch f k 36).toNat),none⟩ (.int .i64 v)).drew.cell? ⟨b,4+k*40+36,none⟩=some (.int .i64 (ch f k 36))∧(w.setCell ⟨b,4+k*40+(4+(ch f k 36).toNat),none⟩ (.int .i64 v)).drew.frozen? ⟨b,4+k*40+36,none⟩=false):=hide (by
   have h1:HasF 49 (w.setCell ⟨b,4+k*40+(4+(ch f k 36).toNat),none⟩ (.int .i64 v)).drew b 244 (iv (up f (4+k*40+(4+(ch f k 36).toNat)) v)):=h.up _ _;have h2:=h1.int (4+k*40+36) (by omega);rw [zbC _ _ _ _ (by omega)] at h2
   exact ⟨h2,h1.frozen _⟩)
  rw [show decide (ch f k 1/64%2=1)=false by simpa using hd] at K6;rw [show 4+k*40+(4+(ch f k 36).toNat)=4+k*40+4+(ch f k 36).toNat by omega] at cw zw HE CE;have ne:4+k*40+36≠4+k*40+4+(ch f k 36).toNat:=by omega
  have KT:Hid (∀u:World,u.cell? ⟨b,4+k*40+36,none⟩=some (.int .i64 (ch f k 36))→u.frozen? ⟨b,4+k*40+36,none⟩=false→Calls Tryz.prog 222 #[.pointer (some ⟨b,4+k*40,none⟩),.int .i64 1] u fun e w'=>e=Ending.returned (.tuple #[])∧w'=u.setCell ⟨b,4+k*40+36,none⟩ (.int .i64 ((ch f k 36+1)%32))):=hide (fun u h1 h2=>znp b (4+k*40) (ch f k 36) 1 u h1 h2 x4.1 x4.2 (by decide) (by decide));clear h x8 hd;generalize ch f k 1=y at *;generalize ch f k (4+(ch f k 36).toNat)=yw at *;generalize ch f k 36=ix at *;generalize 4+k*40=o at *;go_enter Tryz.func269,Tryz.ntmps269;go_wp2_with (go_at_call 162;refine (K6.out _).mono ?_;rintro e w' ⟨rfl,hw⟩;subst w');go_region
  all_goals (try go_wp2_with fail)
  refine (KT.out _ CE.out.1 CE.out.2).mono ?_;rintro e w2 ⟨rfl,hw⟩;subst hw;go_wp2_with fail;go_end0;exact ⟨rfl,HE.out,(((But.refl _ _).set _ _).drew).set _ _⟩
theorem zxY {c b:Int} (c0:0≤c) (c1:c≤4095) (b0:0≤b) (b1:b≤255):b%256+256*(c/256%256)=c/256*256+b:=by omega
theorem zuN {c b:Int} (c0:0≤c) (c1:c≤4095) (b0:0≤b) (b1:b≤255):(c%256+256*(b%256))%4096=c%256+b%16*256:=by omega
theorem chw_2 (h:HasF 49 w b 244 (iv f)) (hk:k<6) (ok:okP f) (b0:Int) (hb0:0≤b0) (hb1:b0≤255):Calls Tryz.prog 246 #[.pointer (some ⟨b,4+k*40,none⟩),.int .i64 (k:Int),.int .i64 2,.int .i64 b0] w fun e w'=>e=Ending.returned (.tuple #[])∧HasF 49 w' b 244 (iv (chW f k 2 b0))∧But b w w':=by
 obtain ⟨x0,x1,x2,x3,x4,x5,x6,x7,x8⟩:=zfS ok hk;have c0:=zed h hk;have HH:=hide h;have HL:=hide h.lt
 have HE:Hid (∀u:World,HasF 49 u b 244 (iv f)→HasF 49 (u.setCell ⟨b,4+k*40,none⟩ (.int .i64 (b0%256+256*(ch f k 0/256%256)))) b 244 (iv (chW f k 2 b0))):=hide (fun u hu=>by
  rw [zxY x0.1 x0.2 hb0 hb1]
  exact hu.up _ _)
 have CC:Hid (∀u:World,HasF 49 u b 244 (iv f)→u.cell? ⟨b,4+k*40,none⟩=some (.int .i64 (ch f k 0))∧u.frozen? ⟨b,4+k*40,none⟩=false):=hide (fun u hu=>⟨zed hu hk,hu.frozen _⟩);clear h x8;generalize ch f k 0=y at *;generalize 4+k*40=o at *;go_enter Tryz.func246,Tryz.ntmps246
 go_wp2_with (first
  |(go_at_call 125;refine (zbf _ _).mono ?_;rintro e w' ⟨rfl,hw⟩;subst w')
  |(go_at_call 118;refine (zcT _ _ _).mono ?_;rintro e w2 ⟨rfl,b2⟩;have H2:=hide (HH.out.next b2);obtain ⟨d1,d2⟩:=CC.out _ H2.out))
 go_end0;exact ⟨rfl,HE.out _ H2.out,(But.of b2).set _ _⟩
theorem chw_3 (h:HasF 49 w b 244 (iv f)) (hk:k<6) (ok:okP f) (b0:Int) (hb0:0≤b0) (hb1:b0≤255):Calls Tryz.prog 246 #[.pointer (some ⟨b,4+k*40,none⟩),.int .i64 (k:Int),.int .i64 3,.int .i64 b0] w fun e w'=>e=Ending.returned (.tuple #[])∧HasF 49 w' b 244 (iv (chW f k 3 b0))∧But b w w':=by
 obtain ⟨x0,x1,x2,x3,x4,x5,x6,x7,x8⟩:=zfS ok hk;have c0:=zed h hk;have HH:=hide h;have HL:=hide h.lt
 have HE:Hid (∀u:World,HasF 49 u b 244 (iv f)→HasF 49 (u.setCell ⟨b,4+k*40,none⟩ (.int .i64 ((ch f k 0%256+256*(b0%256))%4096))) b 244 (iv (chW f k 3 b0))):=hide (fun u hu=>by
  rw [zuN x0.1 x0.2 hb0 hb1]
  exact hu.up _ _)
 have CC:Hid (∀u:World,HasF 49 u b 244 (iv f)→u.cell? ⟨b,4+k*40,none⟩=some (.int .i64 (ch f k 0))∧u.frozen? ⟨b,4+k*40,none⟩=false):=hide (fun u hu=>⟨zed hu hk,hu.frozen _⟩);have mk:=zlj (ch f k 0%256+256*(b0%256));clear h x8;generalize ch f k 0=y at *;generalize 4+k*40=o at *;go_enter Tryz.func246,Tryz.ntmps246
 go_wp2_with (first
  |(go_at_call 125;refine (zbf _ _).mono ?_;rintro e w' ⟨rfl,hw⟩;subst w')
  |(go_at_call 118;refine (zcT _ _ _).mono ?_;rintro e w2 ⟨rfl,b2⟩;have H2:=hide (HH.out.next b2);obtain ⟨d1,d2⟩:=CC.out _ H2.out))
 go_end0;exact ⟨rfl,HE.out _ H2.out,(But.of b2).set _ _⟩
theorem chw_4 (h:HasF 49 w b 244 (iv f)) (hk:k<6) (ok:okP f) (b0:Int) (hb0:0≤b0) (hb1:b0≤255):Calls Tryz.prog 246 #[.pointer (some ⟨b,4+k*40,none⟩),.int .i64 (k:Int),.int .i64 4,.int .i64 b0] w fun e w'=>e=Ending.returned (.tuple #[])∧HasF 49 w' b 244 (iv (chW f k 4 b0))∧But b w w':=by
 obtain ⟨x0,x1,x2,x3,x4,x5,x6,x7,x8⟩:=zfS ok hk;have c0:=zed h hk;have HH:=hide h;have HL:=hide h.lt;have c1:=zhf h hk 1 (by decide);have z1:=h.frozen (4+k*40+1);have c36:=zhf h hk 36 (by decide);have z36:=h.frozen (4+k*40+36);have S6:=hide (fun w=>zAx hb0 hb1 w);have S7:=hide (fun w=>zxW hb0 hb1 w)
 have HE1:Hid (b0/64=1→HasF 49 ((w.setCell ⟨b,4+k*40+1,none⟩ (.int .i64 b0)).setCell ⟨b,4+k*40+36,none⟩ (.int .i64 0)) b 244 (iv (chW f k 4 b0))):=hide (fun e=>by
  have q:chW f k 4 b0=up (up f (4+k*40+1) b0) (4+k*40+36) 0:=by unfold chW;simp [e]
  rw [q]
  exact (h.up _ _).up _ _)
 have HE2:Hid (¬b0/64=1→HasF 49 (w.setCell ⟨b,4+k*40+1,none⟩ (.int .i64 b0)) b 244 (iv (chW f k 4 b0))):=hide (fun e=>by
  have q:chW f k 4 b0=up f (4+k*40+1) b0:=by unfold chW;simp [e]
  rw [q]
  exact h.up _ _)
 clear h x8 x0 x1 x2 x3 x4 x5 x6 x7;generalize ch f k 0=y at *;generalize ch f k 1=y1 at *;generalize ch f k 36=y36 at *;generalize 4+k*40=o at *
 by_cases h6:b0/64%2=1
 ·by_cases h7:128≤b0
  ·have hq:=hide (show ¬b0/64=1 by omega);rw [show decide (b0/64%2=1)=true by simp;omega] at S6;rw [show decide (128≤b0)=true by simp;omega] at S7;clear h6 h7;go_enter Tryz.func246,Tryz.ntmps246;go_wp2_with (go_at_call 125;refine (zbf _ _).mono ?_;rintro e w' ⟨rfl,hw⟩;subst w');refine (S6.out _).mono ?_;rintro e w2 ⟨rfl,hw⟩;subst w2;go_wp2_with fail;refine (S7.out _).mono ?_;rintro e w2 ⟨rfl,hw⟩;subst w2;go_wp2_with fail;go_end0;exact ⟨rfl,HE2.out hq.out,(But.refl _ _).set _ _⟩
  ·have hq:=hide (show b0/64=1 by omega);rw [show decide (b0/64%2=1)=true by simp;omega] at S6;rw [show decide (128≤b0)=false by simp;omega] at S7;clear h6 h7;go_enter Tryz.func246,Tryz.ntmps246;go_wp2_with (go_at_call 125;refine (zbf _ _).mono ?_;rintro e w' ⟨rfl,hw⟩;subst w');refine (S6.out _).mono ?_;rintro e w2 ⟨rfl,hw⟩;subst w2;go_wp2_with fail;refine (S7.out _).mono ?_;rintro e w2 ⟨rfl,hw⟩;subst w2;go_wp2_with fail;go_end0;exact ⟨rfl,HE1.out hq.out,((But.refl _ _).set _ _).set _ _⟩
 ·have hq:=hide (show ¬b0/64=1 by omega);have h7:True:=trivial;rw [show decide (b0/64%2=1)=false by simp;omega] at S6;clear h6 h7;go_enter Tryz.func246,Tryz.ntmps246;go_wp2_with (go_at_call 125;refine (zbf _ _).mono ?_;rintro e w' ⟨rfl,hw⟩;subst w');refine (S6.out _).mono ?_;rintro e w2 ⟨rfl,hw⟩;subst w2;go_wp2_with fail;go_end0;exact ⟨rfl,HE2.out hq.out,(But.refl _ _).set _ _⟩
theorem chw_5 (h:HasF 49 w b 244 (iv f)) (hk:k<6) (ok:okP f) (b0:Int) (hb0:0≤b0) (hb1:b0≤255):Calls Tryz.prog 246 #[.pointer (some ⟨b,4+k*40,none⟩),.int .i64 (k:Int),.int .i64 5,.int .i64 b0] w fun e w'=>e=Ending.returned (.tuple #[])∧HasF 49 w' b 244 (iv (chW f k 5 b0))∧But b w w':=by
 obtain ⟨x0,x1,x2,x3,x4,x5,x6,x7,x8⟩:=zfS ok hk;have c0:=zed h hk;have HH:=hide h;have HL:=hide h.lt;have c2:=zhf h hk 2 (by decide);have z2:=h.frozen (4+k*40+2);have HE:Hid (HasF 49 (w.setCell ⟨b,4+k*40+2,none⟩ (.int .i64 b0)) b 244 (iv (chW f k 5 b0))):=hide (h.up _ _);clear h x8;generalize ch f k 0=y at *;generalize ch f k 2=y2 at *;generalize 4+k*40=o at *;go_enter Tryz.func246,Tryz.ntmps246;go_wp2_with (go_at_call 125;refine (zbf _ _).mono ?_;rintro e w' ⟨rfl,hw⟩;subst w');go_end0;exact ⟨rfl,HE.out,(But.refl _ _).set _ _⟩
theorem chw_6 (h:HasF 49 w b 244 (iv f)) (hk:k<6) (ok:okP f) (b0:Int) (hb0:0≤b0) (hb1:b0≤255):Calls Tryz.prog 246 #[.pointer (some ⟨b,4+k*40,none⟩),.int .i64 (k:Int),.int .i64 6,.int .i64 b0] w fun e w'=>e=Ending.returned (.tuple #[])∧HasF 49 w' b 244 (iv (chW f k 6 b0))∧But b w w':=by
 obtain ⟨x0,x1,x2,x3,x4,x5,x6,x7,x8⟩:=zfS ok hk;have c0:=zed h hk;have HH:=hide h;have HL:=hide h.lt;have KT:=hide (zuM h hk ok (b0%32));have mk:=zru b0;have HE:Hid (chW f k 6 b0=zlk f k (b0%32)):=hide rfl;rw [←HE.out] at KT;clear h x8 ok;generalize ch f k 0=y at *;generalize b0%32=v at *;generalize 4+k*40=o at *;go_enter Tryz.func246,Tryz.ntmps246
 go_wp2_with (first
  |(go_at_call 125;refine (zbf _ _).mono ?_;rintro e w' ⟨rfl,hw⟩;subst w')
  |(go_at_call 269;refine KT.out.mono ?_;rintro e w2 ⟨rfl,h2,b2⟩;have H2:=hide h2;have B2:=hide b2;clear h2 b2))
 go_end0;exact ⟨rfl,H2.out,B2.out⟩
theorem chw_7 (h:HasF 49 w b 244 (iv f)) (hk:k<6) (ok:okP f) (b0:Int) (hb0:0≤b0) (hb1:b0≤255):Calls Tryz.prog 246 #[.pointer (some ⟨b,4+k*40,none⟩),.int .i64 (k:Int),.int .i64 7,.int .i64 b0] w fun e w'=>e=Ending.returned (.tuple #[])∧HasF 49 w' b 244 (iv (chW f k 7 b0))∧But b w w':=by
 obtain ⟨x0,x1,x2,x3,x4,x5,x6,x7,x8⟩:=zfS ok hk;have c0:=zed h hk;have HH:=hide h;have HL:=hide h.lt;have c3:=zhf h hk 3 (by decide);have z3:=h.frozen (4+k*40+3)
 by_cases h4:4≤k
 ·have HE:Hid (HasF 49 (w.setCell ⟨b,4+k*40+3,none⟩ (.int .i64 b0)) b 244 (iv (chW f k 7 b0))):=hide (by
   have q:chW f k 7 b0=up f (4+k*40+3) b0:=by unfold chW;simp [h4]
   rw [q]
   exact h.up _ _)
  clear h x8;generalize ch f k 0=y at *;generalize ch f k 3=y3 at *;generalize 4+k*40=o at *;go_enter Tryz.func246,Tryz.ntmps246;go_wp2_with (go_at_call 125;refine (zbf _ _).mono ?_;rintro e w' ⟨rfl,hw⟩;subst w');go_end0;exact ⟨rfl,HE.out,(But.refl _ _).set _ _⟩
 ·have HE:Hid (HasF 49 w b 244 (iv (chW f k 7 b0))):=hide (by
   have q:chW f k 7 b0=f:=by unfold chW;simp [h4]
   rw [q]
   exact h)
  clear h x8;generalize ch f k 0=y at *;generalize ch f k 3=y3 at *;generalize 4+k*40=o at *;go_enter Tryz.func246,Tryz.ntmps246;go_wp2_with (go_at_call 125;refine (zbf _ _).mono ?_;rintro e w' ⟨rfl,hw⟩;subst w');go_end0;exact ⟨rfl,HE.out,But.refl _ _⟩
theorem zAy (h:HasF 49 w b 244 (iv f)) (hk:k<6) (ok:okP f) (b0:Int) (hb0:0≤b0) (hb1:b0≤255) (at_:Int) (h2:¬at_=2) (h3:¬at_=3) (h4:¬at_=4) (h5:¬at_=5) (h6:¬at_=6) (h7:¬at_=7):Calls Tryz.prog 246 #[.pointer (some ⟨b,4+k*40,none⟩),.int .i64 (k:Int),.int .i64 at_,.int .i64 b0] w fun e w'=>e=Ending.returned (.tuple #[])∧HasF 49 w' b 244 (iv (chW f k at_ b0))∧But b w w':=by
 obtain ⟨x0,x1,x2,x3,x4,x5,x6,x7,x8⟩:=zfS ok hk;have c0:=zed h hk;have HH:=hide h;have HL:=hide h.lt
 have HE:Hid (HasF 49 w b 244 (iv (chW f k at_ b0))):=hide (by
  have q:chW f k at_ b0=f:=by unfold chW;simp [h2,h3,h4,h5,h6,h7]
  rw [q]
  exact h)
 clear h x8;generalize ch f k 0=y at *;generalize 4+k*40=o at *;go_enter Tryz.func246,Tryz.ntmps246;go_wp2_with (go_at_call 125;refine (zbf _ _).mono ?_;rintro e w' ⟨rfl,hw⟩;subst w');go_end0;exact ⟨rfl,HE.out,But.refl _ _⟩
theorem zxZ (h:HasF 49 w b 244 (iv f)) (hk:k<6) (ok:okP f) (b0:Int) (hb0:0≤b0) (hb1:b0≤255) (at_:Int):Calls Tryz.prog 246 #[.pointer (some ⟨b,4+k*40,none⟩),.int .i64 (k:Int),.int .i64 at_,.int .i64 b0] w fun e w'=>e=Ending.returned (.tuple #[])∧HasF 49 w' b 244 (iv (chW f k at_ b0))∧But b w w':=by
 by_cases h2:at_=2
 ·subst h2;exact chw_2 h hk ok b0 hb0 hb1
 by_cases h3:at_=3
 ·subst h3;exact chw_3 h hk ok b0 hb0 hb1
 by_cases h4:at_=4
 ·subst h4;exact chw_4 h hk ok b0 hb0 hb1
 by_cases h5:at_=5
 ·subst h5;exact chw_5 h hk ok b0 hb0 hb1
 by_cases h6:at_=6
 ·subst h6;exact chw_6 h hk ok b0 hb0 hb1
 by_cases h7:at_=7
 ·subst h7;exact chw_7 h hk ok b0 hb0 hb1
 exact zAy h hk ok b0 hb0 hb1 at_ h2 h3 h4 h5 h6 h7
theorem zAz (f:Nat→Int) (b:Int):wrF f 0 b=up f 0 (b%8):=by
 unfold wrF;rw [if_pos rfl,show b%256%8=b%8 by omega]
theorem write_0 (f:Nat→Int) (b:Int) (w:World) (KV:Hid (∀w:World,Calls Tryz.prog 39 #[.agg (rowF (iv f) 244)] w fun e w'=>e=Ending.returned (.bool true)∧Below w.heap.size w w')):Calls Tryz.prog 210 #[.agg (rowF (iv f) 244),.int .i64 0,.int .i64 b] w fun e w'=>e=Ending.returned (.agg (rowF (iv (wrF f 0 b)) 244))∧Below w.heap.size w w':=by
 have HE:Hid (∀u:World,HasF 49 u w.heap.size 244 (iv f)→HasF 49 (u.setCell ⟨w.heap.size,0,none⟩ (.int .i64 (b%8))) w.heap.size 244 (iv (wrF f 0 b))):=hide (fun u hu=>by rw [zAz];exact hu.up _ _);have mk:=zhK (b%256);have mk2:b%256%8=b%8:=by omega
 obtain ⟨at_,hat⟩:∃a:Int,a=0:=⟨_,rfl⟩
 rw [←hat] at HE;replace hat:=hide hat;have hlit:Hid (wrF f at_ b=wrF f 0 b):=hide (by rw [hat.out]);go_enter Tryz.func210,Tryz.ntmps210
 go_wp2_with (first
  |(refine zav rfl 49 rfl (rowF (iv fun _=>0) 244) zero_P ?_)
  |(refine zaj fun w1 hw1=>?_;obtain ⟨n0,n1,n2,n3⟩:=two_named hw1;have P1:Hid (HasF 49 w1 w.heap.size 244 (iv f)):=hide n0;have Z1:Hid (HasF 49 w1 (w.heap.size+1) 244 (iv fun _=>0)):=hide n1;have B1:=hide n3;clear n0 n1 n2 n3 hw1;refine wpList_load_row rfl 49 (.tmp 3) rfl w.heap.size rfl _ _ _ _ P1.out Tryz.underlying49 rfl (info_P _) ?_)
  |(go_at_call 39;refine (KV.out _).mono ?_;rintro e w2 ⟨rfl,c2⟩;have P2:=hide (P1.out.next c2);have Z2:=hide (Z1.out.next c2);have B2:=hide (zaz B1.out c2);have cq:=P2.out.int 0 (by decide);have zq:=P2.out.frozen 0;clear c2 P1 Z1 B1)
  |(go_at_call 69;refine (zam _ _).mono ?_;rintro e w' ⟨rfl,hw⟩;subst w')
  |(refine zaj fun w5 hw5=>?_;have P5:Hid (HasF 49 w5 w.heap.size 244 (iv (wrF f at_ b))):=hide (by rw [hw5];exact HE.out _ P2.out);have Z5:Hid (HasF 49 w5 (w.heap.size+1) 244 (iv fun _=>0)):=hide (by rw [hw5];exact Z2.out.other _ _ (Nat.succ_ne_self _));have B5:Hid (Below w.heap.size w w5):=hide (by rw [hw5];exact Below.setCell (p:=⟨w.heap.size,0,none⟩) B2.out (Nat.le_refl _) _);clear hw5;refine wpList_load_row rfl 49 (.tmp 3) rfl w.heap.size rfl _ _ _ _ P5.out Tryz.underlying49 rfl (info_P _) ?_)
  |(refine wpList_store_row rfl 49 (.tmp 6) (.tmp 43) rfl (w.heap.size+1) _ rfl rfl 49 _ Z5.out (info_P _) (by rw [zai,zai]) (zby _ _) ?_))
 refine bodyPost_ret (results_cell_row rfl _ _ (w.heap.size+1) 49 _ (0,0) _ rfl (setRow_heap _ _ _ _ _ _ Z5.out) Tryz.underlying49 rfl (info_P _)) rfl ?_;exact ⟨by rw [hlit.out],below_setRow B5.out (Nat.le_succ _) _⟩
theorem write_1 (f:Nat→Int) (b:Int) (w:World) (KV:Hid (∀w:World,Calls Tryz.prog 39 #[.agg (rowF (iv f) 244)] w fun e w'=>e=Ending.returned (.bool true)∧Below w.heap.size w w')):Calls Tryz.prog 210 #[.agg (rowF (iv f) 244),.int .i64 1,.int .i64 b] w fun e w'=>e=Ending.returned (.agg (rowF (iv (wrF f 1 b)) 244))∧Below w.heap.size w w':=by
 have HE:Hid (∀u:World,HasF 49 u w.heap.size 244 (iv f)→HasF 49 (u.setCell ⟨w.heap.size,1,none⟩ (.int .i64 (b%256))) w.heap.size 244 (iv (wrF f 1 b))):=hide (fun u hu=>hu.up _ _);have mk:=zhK (b%256);have mk2:b%256%8=b%8:=by omega
 obtain ⟨at_,hat⟩:∃a:Int,a=1:=⟨_,rfl⟩
 rw [←hat] at HE;replace hat:=hide hat;have hlit:Hid (wrF f at_ b=wrF f 1 b):=hide (by rw [hat.out]);go_enter Tryz.func210,Tryz.ntmps210
 go_wp2_with (first
  |(refine zav rfl 49 rfl (rowF (iv fun _=>0) 244) zero_P ?_)
  |(refine zaj fun w1 hw1=>?_;obtain ⟨n0,n1,n2,n3⟩:=two_named hw1;have P1:Hid (HasF 49 w1 w.heap.size 244 (iv f)):=hide n0;have Z1:Hid (HasF 49 w1 (w.heap.size+1) 244 (iv fun _=>0)):=hide n1;have B1:=hide n3;clear n0 n1 n2 n3 hw1;refine wpList_load_row rfl 49 (.tmp 3) rfl w.heap.size rfl _ _ _ _ P1.out Tryz.underlying49 rfl (info_P _) ?_)
  |(go_at_call 39;refine (KV.out _).mono ?_;rintro e w2 ⟨rfl,c2⟩;have P2:=hide (P1.out.next c2);have Z2:=hide (Z1.out.next c2);have B2:=hide (zaz B1.out c2);have cq:=P2.out.int 1 (by decide);have zq:=P2.out.frozen 1;clear c2 P1 Z1 B1)
  |(go_at_call 69;refine (zam _ _).mono ?_;rintro e w' ⟨rfl,hw⟩;subst w')
  |(refine zaj fun w5 hw5=>?_;have P5:Hid (HasF 49 w5 w.heap.size 244 (iv (wrF f at_ b))):=hide (by rw [hw5];exact HE.out _ P2.out);have Z5:Hid (HasF 49 w5 (w.heap.size+1) 244 (iv fun _=>0)):=hide (by rw [hw5];exact Z2.out.other _ _ (Nat.succ_ne_self _));have B5:Hid (Below w.heap.size w w5):=hide (by rw [hw5];exact Below.setCell (p:=⟨w.heap.size,1,none⟩) B2.out (Nat.le_refl _) _);clear hw5;refine wpList_load_row rfl 49 (.tmp 3) rfl w.heap.size rfl _ _ _ _ P5.out Tryz.underlying49 rfl (info_P _) ?_)
  |(refine wpList_store_row rfl 49 (.tmp 6) (.tmp 43) rfl (w.heap.size+1) _ rfl rfl 49 _ Z5.out (info_P _) (by rw [zai,zai]) (zby _ _) ?_))
 refine bodyPost_ret (results_cell_row rfl _ _ (w.heap.size+1) 49 _ (0,0) _ rfl (setRow_heap _ _ _ _ _ _ Z5.out) Tryz.underlying49 rfl (info_P _)) rfl ?_;exact ⟨by rw [hlit.out],below_setRow B5.out (Nat.le_succ _) _⟩
theorem zya (f:Nat→Int) (b:Int) (w:World) (KV:Hid (∀w:World,Calls Tryz.prog 39 #[.agg (rowF (iv f) 244)] w fun e w'=>e=Ending.returned (.bool true)∧Below w.heap.size w w')):Calls Tryz.prog 210 #[.agg (rowF (iv f) 244),.int .i64 8,.int .i64 b] w fun e w'=>e=Ending.returned (.agg (rowF (iv (wrF f 8 b)) 244))∧Below w.heap.size w w':=by
 have HE:Hid (∀u:World,HasF 49 u w.heap.size 244 (iv f)→HasF 49 (u.setCell ⟨w.heap.size,2,none⟩ (.int .i64 (b%256))) w.heap.size 244 (iv (wrF f 8 b))):=hide (fun u hu=>hu.up _ _);have mk:=zhK (b%256);have mk2:b%256%8=b%8:=by omega
 obtain ⟨at_,hat⟩:∃a:Int,a=8:=⟨_,rfl⟩
 rw [←hat] at HE;replace hat:=hide hat;have hlit:Hid (wrF f at_ b=wrF f 8 b):=hide (by rw [hat.out]);go_enter Tryz.func210,Tryz.ntmps210
 go_wp2_with (first
  |(refine zav rfl 49 rfl (rowF (iv fun _=>0) 244) zero_P ?_)
  |(refine zaj fun w1 hw1=>?_;obtain ⟨n0,n1,n2,n3⟩:=two_named hw1;have P1:Hid (HasF 49 w1 w.heap.size 244 (iv f)):=hide n0;have Z1:Hid (HasF 49 w1 (w.heap.size+1) 244 (iv fun _=>0)):=hide n1;have B1:=hide n3;clear n0 n1 n2 n3 hw1;refine wpList_load_row rfl 49 (.tmp 3) rfl w.heap.size rfl _ _ _ _ P1.out Tryz.underlying49 rfl (info_P _) ?_)
  |(go_at_call 39;refine (KV.out _).mono ?_;rintro e w2 ⟨rfl,c2⟩;have P2:=hide (P1.out.next c2);have Z2:=hide (Z1.out.next c2);have B2:=hide (zaz B1.out c2);have cq:=P2.out.int 2 (by decide);have zq:=P2.out.frozen 2;clear c2 P1 Z1 B1)
  |(go_at_call 69;refine (zam _ _).mono ?_;rintro e w' ⟨rfl,hw⟩;subst w')
  |(refine zaj fun w5 hw5=>?_;have P5:Hid (HasF 49 w5 w.heap.size 244 (iv (wrF f at_ b))):=hide (by rw [hw5];exact HE.out _ P2.out);have Z5:Hid (HasF 49 w5 (w.heap.size+1) 244 (iv fun _=>0)):=hide (by rw [hw5];exact Z2.out.other _ _ (Nat.succ_ne_self _));have B5:Hid (Below w.heap.size w w5):=hide (by rw [hw5];exact Below.setCell (p:=⟨w.heap.size,2,none⟩) B2.out (Nat.le_refl _) _);clear hw5;refine wpList_load_row rfl 49 (.tmp 3) rfl w.heap.size rfl _ _ _ _ P5.out Tryz.underlying49 rfl (info_P _) ?_)
  |(refine wpList_store_row rfl 49 (.tmp 6) (.tmp 43) rfl (w.heap.size+1) _ rfl rfl 49 _ Z5.out (info_P _) (by rw [zai,zai]) (zby _ _) ?_))
 refine bodyPost_ret (results_cell_row rfl _ _ (w.heap.size+1) 49 _ (0,0) _ rfl (setRow_heap _ _ _ _ _ _ Z5.out) Tryz.underlying49 rfl (info_P _)) rfl ?_;exact ⟨by rw [hlit.out],below_setRow B5.out (Nat.le_succ _) _⟩
theorem zyb (f:Nat→Int) (b:Int) (w:World) (KV:Hid (∀w:World,Calls Tryz.prog 39 #[.agg (rowF (iv f) 244)] w fun e w'=>e=Ending.returned (.bool true)∧Below w.heap.size w w')):Calls Tryz.prog 210 #[.agg (rowF (iv f) 244),.int .i64 9,.int .i64 b] w fun e w'=>e=Ending.returned (.agg (rowF (iv (wrF f 9 b)) 244))∧Below w.heap.size w w':=by
 have HE:Hid (∀u:World,HasF 49 u w.heap.size 244 (iv f)→HasF 49 (u.setCell ⟨w.heap.size,3,none⟩ (.int .i64 (b%256))) w.heap.size 244 (iv (wrF f 9 b))):=hide (fun u hu=>hu.up _ _);have mk:=zhK (b%256);have mk2:b%256%8=b%8:=by omega
 obtain ⟨at_,hat⟩:∃a:Int,a=9:=⟨_,rfl⟩
 rw [←hat] at HE;replace hat:=hide hat;have hlit:Hid (wrF f at_ b=wrF f 9 b):=hide (by rw [hat.out]);go_enter Tryz.func210,Tryz.ntmps210
 go_wp2_with (first
  |(refine zav rfl 49 rfl (rowF (iv fun _=>0) 244) zero_P ?_)
  |(refine zaj fun w1 hw1=>?_;obtain ⟨n0,n1,n2,n3⟩:=two_named hw1;have P1:Hid (HasF 49 w1 w.heap.size 244 (iv f)):=hide n0;have Z1:Hid (HasF 49 w1 (w.heap.size+1) 244 (iv fun _=>0)):=hide n1;have B1:=hide n3;clear n0 n1 n2 n3 hw1;refine wpList_load_row rfl 49 (.tmp 3) rfl w.heap.size rfl _ _ _ _ P1.out Tryz.underlying49 rfl (info_P _) ?_)
  |(go_at_call 39;refine (KV.out _).mono ?_;rintro e w2 ⟨rfl,c2⟩;have P2:=hide (P1.out.next c2);have Z2:=hide (Z1.out.next c2);have B2:=hide (zaz B1.out c2);have cq:=P2.out.int 3 (by decide);have zq:=P2.out.frozen 3;clear c2 P1 Z1 B1)
  |(go_at_call 69;refine (zam _ _).mono ?_;rintro e w' ⟨rfl,hw⟩;subst w')
  |(refine zaj fun w5 hw5=>?_;have P5:Hid (HasF 49 w5 w.heap.size 244 (iv (wrF f at_ b))):=hide (by rw [hw5];exact HE.out _ P2.out);have Z5:Hid (HasF 49 w5 (w.heap.size+1) 244 (iv fun _=>0)):=hide (by rw [hw5];exact Z2.out.other _ _ (Nat.succ_ne_self _));have B5:Hid (Below w.heap.size w w5):=hide (by rw [hw5];exact Below.setCell (p:=⟨w.heap.size,3,none⟩) B2.out (Nat.le_refl _) _);clear hw5;refine wpList_load_row rfl 49 (.tmp 3) rfl w.heap.size rfl _ _ _ _ P5.out Tryz.underlying49 rfl (info_P _) ?_)
  |(refine wpList_store_row rfl 49 (.tmp 6) (.tmp 43) rfl (w.heap.size+1) _ rfl rfl 49 _ Z5.out (info_P _) (by rw [zai,zai]) (zby _ _) ?_))
 refine bodyPost_ret (results_cell_row rfl _ _ (w.heap.size+1) 49 _ (0,0) _ rfl (setRow_heap _ _ _ _ _ _ Z5.out) Tryz.underlying49 rfl (info_P _)) rfl ?_;exact ⟨by rw [hlit.out],below_setRow B5.out (Nat.le_succ _) _⟩
theorem zoS (f:Nat→Int) (b:Int) (w:World) (KV:Hid (∀w:World,Calls Tryz.prog 39 #[.agg (rowF (iv f) 244)] w fun e w'=>e=Ending.returned (.bool true)∧Below w.heap.size w w')) (ok:okP f) (at_:Int) (h0:¬at_=0) (h1:¬at_=1) (h8:¬at_=8) (h9:¬at_=9):Calls Tryz.prog 210 #[.agg (rowF (iv f) 244),.int .i64 at_,.int .i64 b] w fun e w'=>e=Ending.returned (.agg (rowF (iv (wrF f at_ b)) 244))∧Below w.heap.size w w':=by
 have y0:=ok.1
 by_cases hs:f 0<6
 ·have HQ:Hid (wrF f at_ b=chW f (f 0).toNat at_ (b%256)):=hide (by unfold wrF;simp [h0,h1,h8,h9,hs]);obtain ⟨k,hk⟩:∃k:Nat,f 0=(k:Int):=⟨(f 0).toNat,by omega⟩
  rw [show (f 0).toNat=k by omega] at HQ;have hk6:k<6:=by omega
  have KC:=hide (fun (u:World) (hu:HasF 49 u w.heap.size 244 (iv f))=>zxZ hu hk6 ok (b%256) (by omega) (by omega) at_);rw [←HQ.out] at KC;clear ok y0 hs;go_enter Tryz.func210,Tryz.ntmps210
  go_wp2_with (first
   |(refine zav rfl 49 rfl (rowF (iv fun _=>0) 244) zero_P ?_)
   |(refine zaj fun w1 hw1=>?_;obtain ⟨n0,n1,n2,n3⟩:=two_named hw1;have P1:Hid (HasF 49 w1 w.heap.size 244 (iv f)):=hide n0;have Z1:Hid (HasF 49 w1 (w.heap.size+1) 244 (iv fun _=>0)):=hide n1;have B1:=hide n3;clear n0 n1 n2 n3 hw1;refine wpList_load_row rfl 49 (.tmp 3) rfl w.heap.size rfl _ _ _ _ P1.out Tryz.underlying49 rfl (info_P _) ?_)
   |(go_at_call 39;refine (KV.out _).mono ?_;rintro e w2 ⟨rfl,c2⟩;have P2:=hide (P1.out.next c2);have Z2:=hide (Z1.out.next c2);have B2:=hide (zaz B1.out c2);have c0:=P2.out.int 0 (by decide);rw [hk] at c0;clear c2 P1 Z1 B1)
   |(go_at_call 69;refine (zam _ _).mono ?_;rintro e w' ⟨rfl,hw⟩;subst w'))
  have k0:=zah c0 P2.out.lt;haveI:=zax w2;refine zaq _ _ (show _=[_,_,_,_,_,_,_,_]++[_] from rfl) (by kernel_rfl) (by kernel_rfl) (by kernel_rfl) ?_
  repeat (go_big_quiet_step (fail))
  refine wpQuiet_nil ?_;rintro _ ⟨wk,rfl⟩;have P3:=hide (P2.out.next wk.below);have Z3:=hide (Z2.out.next wk.below);have B3:=hide (zaz B2.out wk.below);clear P2 Z2 B2 k0 c0
  go_wp2_with (first
   |(go_at_call 246;refine (KC.out _ P3.out).mono ?_;rintro e w5 ⟨rfl,h5,b5⟩;have P5:=hide h5;have Z5:=hide (b5.keep Z3.out (Nat.succ_ne_self _));have B5:=hide (bbut B3.out b5 (Nat.le_refl _) (Nat.le_refl _));clear h5 b5)
   |(refine wpList_load_row rfl 49 (.tmp 3) rfl w.heap.size rfl _ _ _ _ P5.out Tryz.underlying49 rfl (info_P _) ?_)
   |(refine wpList_store_row rfl 49 (.tmp 6) (.tmp 43) rfl (w.heap.size+1) _ rfl rfl 49 _ Z5.out (info_P _) (by rw [zai,zai]) (zby _ _) ?_))
  refine bodyPost_ret (results_cell_row rfl _ _ (w.heap.size+1) 49 _ (0,0) _ rfl (setRow_heap _ _ _ _ _ _ Z5.out) Tryz.underlying49 rfl (info_P _)) rfl ?_;exact ⟨rfl,below_setRow B5.out (Nat.le_succ _) _⟩
 ·have HQ:Hid (wrF f at_ b=f):=hide (by unfold wrF;simp [h0,h1,h8,h9,hs]);clear ok;go_enter Tryz.func210,Tryz.ntmps210
  go_wp2_with (first
   |(refine zav rfl 49 rfl (rowF (iv fun _=>0) 244) zero_P ?_)
   |(refine zaj fun w1 hw1=>?_;obtain ⟨n0,n1,n2,n3⟩:=two_named hw1;have P1:Hid (HasF 49 w1 w.heap.size 244 (iv f)):=hide n0;have Z1:Hid (HasF 49 w1 (w.heap.size+1) 244 (iv fun _=>0)):=hide n1;have B1:=hide n3;clear n0 n1 n2 n3 hw1;refine wpList_load_row rfl 49 (.tmp 3) rfl w.heap.size rfl _ _ _ _ P1.out Tryz.underlying49 rfl (info_P _) ?_)
   |(go_at_call 39;refine (KV.out _).mono ?_;rintro e w2 ⟨rfl,c2⟩;have P2:=hide (P1.out.next c2);have Z2:=hide (Z1.out.next c2);have B2:=hide (zaz B1.out c2);have c0:=P2.out.int 0 (by decide);clear c2 P1 Z1 B1)
   |(go_at_call 69;refine (zam _ _).mono ?_;rintro e w' ⟨rfl,hw⟩;subst w')
   |(refine wpList_load_row rfl 49 (.tmp 3) rfl w.heap.size rfl _ _ _ _ P2.out Tryz.underlying49 rfl (info_P _) ?_)
   |(refine wpList_store_row rfl 49 (.tmp 6) (.tmp 43) rfl (w.heap.size+1) _ rfl rfl 49 _ Z2.out (info_P _) (by rw [zai,zai]) (zby _ _) ?_))
  refine bodyPost_ret (results_cell_row rfl _ _ (w.heap.size+1) 49 _ (0,0) _ rfl (setRow_heap _ _ _ _ _ _ Z2.out) Tryz.underlying49 rfl (info_P _)) rfl ?_;exact ⟨by rw [HQ.out],below_setRow B2.out (Nat.le_succ _) _⟩
theorem write_any (f:Nat→Int) (at_ b:Int) (ok:okP f) (w:World):Calls Tryz.prog 210 #[.agg (rowF (iv f) 244),.int .i64 at_,.int .i64 b] w fun e w'=>e=Ending.returned (.agg (rowF (iv (wrF f at_ b)) 244))∧Below w.heap.size w w':=by
 have KV:=hide (fun w=>valid_any f w);rw [(vB_iff f).1 ok] at KV
 by_cases h0:at_=0
 ·subst h0;exact write_0 f b w KV
 by_cases h1:at_=1
 ·subst h1;exact write_1 f b w KV
 by_cases h8:at_=8
 ·subst h8;exact zya f b w KV
 by_cases h9:at_=9
 ·subst h9;exact zyb f b w KV
 exact zoS f b w KV ok at_ h0 h1 h8 h9
def loC (m:Nat):Int:=if m=38 then 1 else 0
def hiC (m:Nat):Int:=if m=0 then 4095 else if m<4 then 255 else if m<37 then 31 else if m=37 then 16777215 else if m=38 then 262143 else 31
theorem zjX {c:Nat→Int}:okC c↔∀m,m<40→loC m≤c m∧c m≤hiC m:=by
 constructor
 ·rintro ⟨h0,h1,h2,h3,h4,h5,h6,h7,h8⟩ m hm;rcases (show m=0∨m=1∨m=2∨m=3∨(4≤m∧m<36)∨m=36∨m=37∨m=38∨m=39 by omega) with rfl|rfl|rfl|rfl|h|rfl|rfl|rfl|rfl
  ·exact h0
  ·exact h1
  ·exact h2
  ·exact h3
  ·have k:=h8 (m-4) (by omega);rw [show 4+(m-4)=m by omega] at k;unfold loC hiC;rw [if_neg (by omega),if_neg (by omega),if_neg (by omega),if_pos (by omega)];exact k
  ·exact h4
  ·exact h5
  ·exact h6
  ·exact h7
 ·intro h;refine ⟨h 0 (by decide),h 1 (by decide),h 2 (by decide),h 3 (by decide),h 36 (by decide),h 37 (by decide),h 38 (by decide),h 39 (by decide),fun i hi=>?_⟩;have k:=h (4+i) (by omega);unfold loC hiC at k;rw [if_neg (by omega),if_neg (by omega),if_neg (by omega),if_pos (by omega)] at k;exact k
theorem zAA (f:Nat→Int) (k m:Nat) (v:Int) (k' j:Nat) (hm:m<40) (hj:j<40):ch (up f (4+k*40+m) v) k' j=if k'=k∧j=m then v else ch f k' j:=by
 unfold ch up
 by_cases h:k'=k∧j=m
 ·rw [if_pos h,if_pos (by omega)]
 ·rw [if_neg h,if_neg (by omega)]
theorem zfo (h:okP f) (k m:Nat) (v:Int) (hm:m<40) (hv:loC m≤v∧v≤hiC m):okP (up f (4+k*40+m) v):=by
 obtain ⟨h0,h1,h2,h3,h4⟩:=h;unfold okP;rw [zbC _ _ 0 _ (by omega),zbC _ _ 1 _ (by omega),zbC _ _ 2 _ (by omega),zbC _ _ 3 _ (by omega)];refine ⟨h0,h1,h2,h3,fun k' hk'=>zjX.2 fun j hj=>?_⟩;rw [zAA _ _ _ _ _ _ hm hj];split
 ·rename_i e;rw [e.2];exact hv
 ·exact zjX.1 (h4 k' hk') j hj
theorem zyc (f:Nat→Int) (i:Nat) (v:Int) (hi:i<4) (k j:Nat):ch (up f i v) k j=ch f k j:=by
 unfold ch;exact zbC _ _ _ _ (by omega)
theorem zjY (h:okP f) (i:Nat) (v:Int) (hi:i<4) (hv:0≤v∧v≤255) (h7:i=0→v≤7):okP (up f i v):=by
 obtain ⟨h0,h1,h2,h3,h4⟩:=h;unfold okP;refine ⟨?_,?_,?_,?_,fun k hk=>zjX.2 fun j hj=>?_⟩
 ·unfold up;split
  ·exact ⟨hv.1,h7 (by omega)⟩
  ·exact h0
 ·unfold up;split
  ·exact hv
  ·exact h1
 ·unfold up;split
  ·exact hv
  ·exact h2
 ·unfold up;split
  ·exact hv
  ·exact h3
 ·rw [zyc _ _ _ hi];exact zjX.1 (h4 k hk) j hj
theorem zAB (h:okP f) (hk:k<6) (at_ b:Int) (hb:0≤b∧b≤255):okP (chW f k at_ b):=by
 obtain ⟨x0,x1,x2,x3,x4,x5,x6,x7,x8⟩:=zfS h hk;unfold chW;split
 ·exact zfo h k 0 _ (by decide) (by unfold loC hiC;simp;omega)
 ·split
  ·exact zfo h k 0 _ (by decide) (by unfold loC hiC;simp;omega)
  ·split
   ·split
    ·exact zfo (zfo h k 1 _ (by decide) (by unfold loC hiC;simp;omega)) k 36 _ (by decide) (by unfold loC hiC;simp)
    ·exact zfo h k 1 _ (by decide) (by unfold loC hiC;simp;omega)
   ·split
    ·exact zfo h k 2 _ (by decide) (by unfold loC hiC;simp;omega)
    ·split
     ·unfold zlk;split
      ·exact zfo h k 39 _ (by decide) (by unfold loC hiC;simp;omega)
      ·refine zfo (zfo h k (4+(ch f k 36).toNat) _ (by omega) ?_) k 36 _ (by decide) (by unfold loC hiC;simp;omega);unfold loC hiC;rw [if_neg (by omega),if_neg (by omega),if_neg (by omega),if_pos (by omega)];omega
     ·split
      ·split
       ·exact zfo h k 3 _ (by decide) (by unfold loC hiC;simp;omega)
       ·exact h
      ·exact h
theorem wr_ok (h:okP f) (at_ b:Int):okP (wrF f at_ b):=by
 have h0:=h.1;unfold wrF;split
 ·exact zjY h 0 _ (by decide) (by omega) (by omega)
 ·split
  ·exact zjY h 1 _ (by decide) (by omega) (by omega)
  ·split
   ·exact zjY h 2 _ (by decide) (by omega) (by omega)
   ·split
    ·exact zjY h 3 _ (by decide) (by omega) (by omega)
    ·split
     ·exact zAB h (by omega) _ _ (by omega)
     ·exact h
end Go.Proofs.YtdiidjehdginnaaGreatDoor.P22
