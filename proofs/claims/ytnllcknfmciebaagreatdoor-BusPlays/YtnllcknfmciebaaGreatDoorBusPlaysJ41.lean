/- Texts put together. -/
import Derived.Test.YtnllcknfmciebaaGreatDoorBusPlaysJ40
import Derived.Test.YtnllcknfmciebaaGreatDoorBusPlaysJ31
namespace Go.Proofs.YtnllcknfmciebaaGreatDoor.L24
set_option maxRecDepth 20000
open B4 C3 D24 G6 I11 J23 M5 P22 R15 T10 V12 W13
open Go.RowKit
set_option linter.unusedVariables false
set_option maxHeartbeats 8000000 in
theorem like_is {w:World} {b v c d b' c' d' r:Nat} {bs:List Int} {P:Int} {sl:Value} {Z:Nat→Nat→Int} (h:HasP w b v c d bs Z) (y:HasD w b' c' d' r P sl (setZ Z)) (n1:¬EX b v b') (n2:¬EX b v c') (n3:¬EX b v d') (n4:¬EX b v r):
  Calls Tryz.prog 5 #[.pointer (some ⟨b,0,none⟩),.pointer (some ⟨b',0,none⟩)] w fun e w'=>e=Ending.returned (.int .i64 1)∧HasP w' b v c d bs (setZ Z)∧OnlyE (EX b v) w w':=by
 have K:=hide (p_settle h)
 have Y0:=hide y
 have NN:=hide (show ¬EX b v b'∧¬EX b v c'∧¬EX b v d'∧¬EX b v r from ⟨n1,n2,n3,n4⟩)
 clear h y n1 n2 n3 n4
 go_enter Tryz.func5,Tryz.ntmps5
 go_wp2_with fail
 refine K.out.mono ?_
 rintro e w1 ⟨rfl,x1,o1⟩
 have X1:=hide x1
 have Y1:=hide (HasD.only Y0.out o1 NN.out.1 NN.out.2.1 NN.out.2.2.1 NN.out.2.2.2)
 have O1:=hide o1
 clear x1 o1 K Y0
 obtain ⟨Y,hY⟩:∃Y,Y=setZ Z:=⟨_,rfl⟩
 rw [←hY] at X1 Y1
 replace hY:=hide hY
 have p1:w1.cell? ⟨b,21,none⟩=some (.pointer (some ⟨v,0,none⟩)):=X1.out.1.get1 1 rfl (a:=21) (X1.out.isB.off 1 rfl) (by decide)
 go_wp2_with fail
 refine (ports_is v _ _ _ _ _ _ w1 X1.out.2.1).mono ?_
 rintro e w2 ⟨rfl,b2⟩
 have X2:=hide (HasP.next X1.out b2)
 have Y2:=hide (HasD.next Y1.out b2)
 have O2:=hide (O1.out.trans (ex_below b2))
 clear b2 p1 X1 Y1 O1
 go_wp2_with fail
 refine like_r3 X2.out Y2.out _ ?_
 intro x24 x25 x26 x27 x28 x29 x30 x31 x32 x33 x34 x35 x36 x37 x38 x39 x40 x41 x42 x43 x44 x45 x46 x47 x48 x49 x50 x51 x52 x53 x54 x55 x56 x57 x58 x59 x60 x61 x62 x63 x64 x65 x66 x67 x68 x69 x70 x71 x72 x73 x74 x75 x76 x77 x78 x79 x80 x81 x82 x83 x84 x85 x86 x87 x88 x89 x90 x91 x92 x93 x94 x95 x96 x97 x98 x99 x100 x101 x102 wk
 have X3:=hide (HasP.next X2.out wk.below)
 have Y3:=hide (HasD.next Y2.out wk.below)
 have O3:=hide (O2.out.trans (ex_below wk.below))
 generalize wk.val=w3 at *
 clear X2 Y2 O2
 go_wp2_with fail
 refine like_r5 X3.out Y3.out _ ?_
 intro y104 y105 y106 y107 y108 y109 y110 y111 y112 y113 y114 y115 y116 y117 y118 y119 y120 y121 y122 y123 y124 y125 y126 y127 y128 y129 y130 y131 y132 y133 y134 y135 y136 y137 y138 y139 y140 y141 y142 y143 y144 y145 y146 y147 y148 y149 y150 y151 y152 y153 y154 y155 y156 y157 y158 y159 y160 y161 y162 y163 y164 y165 y166 y167 y168 y169 y170 y171 y172 wk
 have X4:=hide (HasP.next X3.out wk.below)
 have Y4:=hide (HasD.next Y3.out wk.below)
 have O4:=hide (O3.out.trans (ex_below wk.below))
 generalize wk.val=w4 at *
 clear X3 Y3 O3
 have y6:w4.cell? ⟨b',33,none⟩=some (.pointer (some ⟨c',0,none⟩)):=Y4.out.1.get1 6 rfl (a:=33) (Y4.out.2.2.2.1.off 6 rfl) (by decide)
 have c1:=Y4.out.2.1.c1
 have c2:=Y4.out.2.1.c2
 have c3:=Y4.out.2.1.c3
 have c4:=Y4.out.2.1.c4
 have c5:=Y4.out.2.1.c5
 go_wp2_with fail
 go_ret
 exact ⟨rfl,by rw [←hY.out];exact X4.out,O4.out⟩
end Go.Proofs.YtnllcknfmciebaaGreatDoor.L24
namespace Go.Proofs.YtnllcknfmciebaaGreatDoor.L25
set_option maxRecDepth 20000
open B4 C3 G6 I11 J23 L24 M5 P22 R15 T10 V12 W13
open Go.RowKit
set_option linter.unusedVariables false
def padR (Z:Nat→Nat→Int):Int:=J23.rdOf (isB (Z 14 0)) (isB (Z 14 2)) (Z 14 3) (fun n=>Z 15 (2*n)) (fun n=>isB (Z 15 (2*n+1))) false
def rdV (bs:List Int) (Z:Nat→Nat→Int) (p:Int):Int:=
 if kindW p=0 then romB bs Z p else if kindW p=1 then Z 8 (p%8192).toNat
 else if kindW p=2 then (if atW p=0 then Z 3 0 else if atW p=2 then Z 19 4%256 else if atW p=3 then Z 19 4/256%256 else 0)
 else if kindW p=3 then vceR (Z 10) (atW p) else if kindW p=4 then Z 16 0
 else if kindW p=5 then Z 16 0/128*128+setZ Z 12 1 else if kindW p=6 then padR Z
 else if kindW p=7 then (if atW p<2 then Z 16 0 else Z 16 0/8*8+readOf (setZ Z 13 0) (setZ Z 13 1) (atW p)) else 255
def rdZ (Z:Nat→Nat→Int) (p:Int):Nat→Nat→Int:=
 if kindW p=2 then (if atW p=0 then lookZ Z else if atW p=3 then nextZ Z else Z)
 else if kindW p=3 then upZ Z 10 (vceN (Z 10) (atW p))
 else if kindW p=5 then holdZ (setZ Z) (Z 16 0/128*128+setZ Z 12 1) else if kindW p=6 then holdZ Z (padR Z)
 else if kindW p=7 then (if atW p<2 then Z else holdZ (setZ Z) (Z 16 0/8*8+readOf (setZ Z 13 0) (setZ Z 13 1) (atW p))) else Z
def wrZ (Z:Nat→Nat→Int) (p y:Int):Nat→Nat→Int:=
 if kindW p=1 then upZ Z 8 (up (Z 8) (p%8192).toNat y) else if kindW p=2 then effZ (drawZ Z (atW p) y) (effW (Z 0) (atW p)) y
 else if kindW p=3 then upZ Z 10 (vceW (Z 10) (atW p) y) else if kindW p=4 then holdZ (upZ Z 11 (P22.wrF (Z 11) (atW p) y)) y
 else if kindW p=5 then holdZ (upZ (setZ Z) 12 (timW (setZ Z 12) (atW p) y)) y else if kindW p=6 then holdZ (upZ Z 14 (padW (Z 14) y)) y
 else if kindW p=7 then holdZ (upZ (setZ Z) 13 (twoV (irqM (setZ Z 13 0) (setZ Z 13 1) (atW p) y) (irqL (setZ Z 13 0) (setZ Z 13 1) (atW p) y))) y else Z
theorem sim_rd0 {Z:Nat→Nat→Int} (h:∀k,GZ k (Z k)) (b v c d:Nat) (bs:List Int) (hn:known ((bs.length/8192:Nat):Int)=true) (p:Int):∃x Z',rdV bs Z p=x∧rdZ Z p=Z'∧(∀k,GZ k (Z' k))∧Z' 17 0≤Z 17 0∧(∀w,HasP w b v c d bs Z→Calls Tryz.prog 6 #[.pointer (some ⟨b,0,none⟩),.int .i64 p] w fun e w'=>e=Ending.returned (.int .i64 x)∧HasP w' b v c d bs Z'∧OnlyE (EX b v) w w'):=by
 have g:=good_of h
 have hs:=good_set h
 have l0:(0:Int)≤Z 17 0:=(h 17).1.1
 have h16:=h 16
 rcases kindW_cases p with ⟨p0,p1,hk⟩|⟨p0,p1,hk⟩|hk|hk|hk|hk|hk|hk|hk
 ·exact ⟨romB bs Z p,Z,by simp [rdV,hk],by simp [rdZ,hk],h,Int.le_refl _,fun w hP=>p_rom hP g p hn p0 p1⟩
 ·exact ⟨Z 8 (p%8192).toNat,Z,by simp [rdV,hk],by simp [rdZ,hk],h,Int.le_refl _,fun w hP=>p_ram hP g p p0 p1⟩
 ·by_cases a0:atW p=0
  ·exact ⟨Z 3 0,lookZ Z,by simp [rdV,hk,a0],by simp [rdZ,hk,a0],good_look h,Int.le_refl _,fun w hP=>p_status hP g p hk a0⟩
  by_cases a2:atW p=2
  ·exact ⟨Z 19 4%256,Z,by simp [rdV,hk,a2],by simp [rdZ,hk,a2],h,Int.le_refl _,fun w hP=>p_low hP g p hk a2⟩
  by_cases a3:atW p=3
  ·exact ⟨Z 19 4/256%256,nextZ Z,by simp [rdV,hk,a3],by simp [rdZ,hk,a3],good_next h,Int.le_refl _,fun w hP=>p_high hP g p hk a3⟩
  ·exact ⟨0,Z,by simp [rdV,hk,a0,a2,a3],by simp [rdZ,hk,a0,a3],h,Int.le_refl _,fun w hP=>p_vdc_no hP g p hk a0 a2 a3⟩
 ·exact ⟨vceR (Z 10) (atW p),upZ Z 10 (vceN (Z 10) (atW p)),by simp [rdV,hk],by simp [rdZ,hk],good_vceN h _,Int.le_refl _,fun w hP=>p_vceR hP g p hk⟩
 ·exact ⟨Z 16 0,Z,by simp [rdV,hk],by simp [rdZ,hk],h,Int.le_refl _,fun w hP=>p_hold hP g p hk⟩
 ·have o:=okT_true (hs 12)
  exact ⟨Z 16 0/128*128+setZ Z 12 1,holdZ (setZ Z) (Z 16 0/128*128+setZ Z 12 1),by simp [rdV,hk],by simp [rdZ,hk],good_hold hs _ (by have:=h16.1;omega) (by have:=h16.2;omega),l0,fun w hP=>p_timer hP g p hk o.2.2.1 (by omega)⟩
 ·have r0:=J23.preOf_in (isB (Z 14 0)) (isB (Z 14 2)) (Z 14 3) (fun n=>Z 15 (2*n)) (fun n=>isB (Z 15 (2*n+1)))
  exact ⟨padR Z,holdZ Z (padR Z),by simp [rdV,hk],by simp [rdZ,hk],good_hold h _ (by unfold padR J23.rdOf;simp;omega) (by unfold padR J23.rdOf;simp;omega),Int.le_refl _,fun w hP=>p_pad hP g p hk⟩
 ·by_cases ha:atW p<2
  ·exact ⟨Z 16 0,Z,by simp [rdV,hk,ha],by simp [rdZ,hk,ha],h,Int.le_refl _,fun w hP=>p_irq0 hP g p hk ha⟩
  ·have a4:=at_irq hk
   have hr:0≤readOf (setZ Z 13 0) (setZ Z 13 1) (atW p)∧readOf (setZ Z 13 0) (setZ Z 13 1) (atW p)<8:=by
    unfold readOf
    split
    ·omega
    ·split<;>omega
   exact ⟨Z 16 0/8*8+readOf (setZ Z 13 0) (setZ Z 13 1) (atW p),holdZ (setZ Z) (Z 16 0/8*8+readOf (setZ Z 13 0) (setZ Z 13 1) (atW p)),by simp [rdV,hk,ha],by simp [rdZ,hk,ha],good_hold hs _ (by have:=h16.1;omega) (by have:=h16.2;omega),l0,fun w hP=>p_irq hP g p hk (by omega)⟩
 ·exact ⟨255,Z,by simp [rdV,hk],by simp [rdZ,hk],h,Int.le_refl _,fun w hP=>p_open hP g p hk⟩
theorem eff_17 (Z:Nat→Nat→Int) (a y e:Int):effZ (drawZ Z a y) e y 17=Z 17:=by
 unfold effZ
 split
 ·rfl
 split
 ·rfl
 split
 ·rfl
 split
 ·rfl
 split
 ·rfl
 split
 ·rfl
 split<;>rfl
theorem sim_wr0 {Z:Nat→Nat→Int} (h:∀k,GZ k (Z k)) (b v c d:Nat) (bs:List Int) (hn:bs.length/8192≠320) (p n y:Int) (hy:n%256=y):∃Z',wrZ Z p y=Z'∧(∀k,GZ k (Z' k))∧Z' 17 0≤Z 17 0∧(∀w,HasP w b v c d bs Z→Calls Tryz.prog 8 #[.pointer (some ⟨b,0,none⟩),.int .i64 p,.int .i64 n] w fun e w'=>e=Ending.returned (.tuple #[])∧HasP w' b v c d bs Z'∧OnlyE (EX b v) w w'):=by
 have g:=good_of h
 have hs:=good_set h
 have l0:(0:Int)≤Z 17 0:=(h 17).1.1
 have y0:0≤y∧y<256:=by omega
 rcases kindW_cases p with ⟨p0,p1,hk⟩|⟨p0,p1,hk⟩|hk|hk|hk|hk|hk|hk|hk
 ·exact ⟨Z,by simp [wrZ,hk],h,Int.le_refl _,fun w hP=>pw_rom hP g p n y hy p0 p1 hn⟩
 ·refine ⟨upZ Z 8 (up (Z 8) (p%8192).toNat y),by simp [wrZ,hk],good_up h 8 _ (fun j=>?_),Int.le_refl _,fun w hP=>pw_ram hP g p n y hy p0 p1⟩
  unfold up
  split
  ·exact y0
  ·exact h 8 j
 ·have gd:=(gW_good h (atW p) y).2
  exact ⟨effZ (drawZ Z (atW p) y) (effW (Z 0) (atW p)) y,by simp [wrZ,hk],good_eff (good_draw h _ _) _ y y0.1 y0.2,by rw [eff_17];exact Int.le_refl _,fun w hP=>pw_vdc hP g p n y hy hk gd⟩
 ·exact ⟨upZ Z 10 (vceW (Z 10) (atW p) y),by simp [wrZ,hk],good_vceW h _ y y0.1 y0.2,Int.le_refl _,fun w hP=>pw_vce hP g p n y hy hk⟩
 ·exact ⟨holdZ (upZ Z 11 (P22.wrF (Z 11) (atW p) y)) y,by simp [wrZ,hk],good_hold (good_up h 11 _ (P22.wr_ok (h 11) _ _)) y y0.1 y0.2,Int.le_refl _,fun w hP=>pw_psg hP g p n y hy hk⟩
 ·exact ⟨holdZ (upZ (setZ Z) 12 (timW (setZ Z 12) (atW p) y)) y,by simp [wrZ,hk],good_hold (good_tim hs _ _) y y0.1 y0.2,l0,fun w hP=>pw_timer hP g p n y hy hk⟩
 ·exact ⟨holdZ (upZ Z 14 (padW (Z 14) y)) y,by simp [wrZ,hk],good_hold (good_up h 14 _ trivial) y y0.1 y0.2,Int.le_refl _,fun w hP=>pw_pad hP g p n y hy hk⟩
 ·exact ⟨holdZ (upZ (setZ Z) 13 (twoV (irqM (setZ Z 13 0) (setZ Z 13 1) (atW p) y) (irqL (setZ Z 13 0) (setZ Z 13 1) (atW p) y))) y,by simp [wrZ,hk],good_hold (good_irq hs _ _) y y0.1 y0.2,l0,fun w hP=>pw_irq hP g p n y hy hk⟩
 ·exact ⟨Z,by simp [wrZ,hk],h,Int.le_refl _,fun w hP=>pw_open hP g p n y hy hk⟩
theorem sim_rd {Z:Nat→Nat→Int} (h:∀k,GZ k (Z k)) (b v c d:Nat) (bs:List Int) (hn:known ((bs.length/8192:Nat):Int)=true) (p:Int) {x:Int} {Z':Nat→Nat→Int} (hx:rdV bs Z p=x) (hz:rdZ Z p=Z'):(∀k,GZ k (Z' k))∧Z' 17 0≤Z 17 0∧(∀w,HasP w b v c d bs Z→Calls Tryz.prog 6 #[.pointer (some ⟨b,0,none⟩),.int .i64 p] w fun e w'=>e=Ending.returned (.int .i64 x)∧HasP w' b v c d bs Z'∧OnlyE (EX b v) w w'):=by
 obtain ⟨x1,Z1,e1,e2,k⟩:=sim_rd0 h b v c d bs hn p
 obtain rfl:x=x1:=hx.symm.trans e1
 obtain rfl:Z'=Z1:=hz.symm.trans e2
 exact k
theorem sim_wr {Z:Nat→Nat→Int} (h:∀k,GZ k (Z k)) (b v c d:Nat) (bs:List Int) (hn:bs.length/8192≠320) (p n:Int) {Z':Nat→Nat→Int} (hz:wrZ Z p (n%256)=Z'):(∀k,GZ k (Z' k))∧Z' 17 0≤Z 17 0∧(∀w,HasP w b v c d bs Z→Calls Tryz.prog 8 #[.pointer (some ⟨b,0,none⟩),.int .i64 p,.int .i64 n] w fun e w'=>e=Ending.returned (.tuple #[])∧HasP w' b v c d bs Z'∧OnlyE (EX b v) w w'):=by
 obtain ⟨Z1,e2,k⟩:=sim_wr0 h b v c d bs hn p n _ rfl
 obtain rfl:Z'=Z1:=hz.symm.trans e2
 exact k
end Go.Proofs.YtnllcknfmciebaaGreatDoor.L25
