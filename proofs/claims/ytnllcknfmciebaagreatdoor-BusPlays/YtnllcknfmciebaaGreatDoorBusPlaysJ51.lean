/- Texts put together. -/
import Derived.Test.YtnllcknfmciebaaGreatDoorBusPlaysJ50
import Derived.Test.YtnllcknfmciebaaGreatDoorBusPlaysJ41
import Derived.Test.YtnllcknfmciebaaGreatDoorRows
import Derived.Test.YtnllcknfmciebaaGreatDoorBusPlaysJ16
import Derived.Test.YtnllcknfmciebaaGreatDoorBusPlaysJ04
import Derived.Test.YtnllcknfmciebaaGreatDoorBusPlaysJ05
import Derived.Test.YtnllcknfmciebaaGreatDoorBusPlaysJ07
import Derived.Test.YtnllcknfmciebaaGreatDoorBusPlaysJ01
import Derived.ChangeSame
import Derived.ChangeVars
import Derived.JoinedOf
import Derived.RowKit
import Derived.RowKitTokens
import Derived.LaidLaws
import Derived.LaidHandle
import Derived.Stop.Joined
namespace Go.Proofs.YtnllcknfmciebaaGreatDoor.L24
set_option maxRecDepth 20000
open B4 C3 D24 G6 I11 J23 M5 P22 R15 T10 V12 W13
open Go.RowKit
set_option linter.unusedVariables false
theorem mv_same (mv:Bool) (s a:Int):D24.mvOf s a mv=isB (b2i (mvB mv s a)):=by
 rw [isB_b2i]
 unfold D24.mvOf mvB
 by_cases h:s=8∧(a=2∨a=3)
 ·rw [if_pos h,h.1]
  rcases h.2 with rfl|rfl<;>simp
 ·rw [if_neg h]
  by_cases h8:s=8
  ·have h2:¬a=2:=fun e=>h ⟨h8,.inl e⟩
   have h3:¬a=3:=fun e=>h ⟨h8,.inr e⟩
   simp [h2,h3]
  ·simp [h8]
theorem draw_L1 (P:Int) (sl:Value) (r c:Nat) (Z:Nat→Nat→Int) (a y:Int):((YP P sl r c Z).set 5 (21,iv (gW (Z 0) a y))).set 10 (1,fun _=>.bool (D24.mvOf (gW (Z 0) a y 0) a (isB (Z 5 0))))=YP P sl r c (drawZ Z a y):=by
 rw [mv_same]
 rfl
set_option maxHeartbeats 1000000 in
theorem d_draw {w:World} {b c d r:Nat} {P:Int} {sl:Value} {Z:Nat→Nat→Int} (h:HasD w b c d r P sl Z) (g:GoodZ Z) (a y:Int) (y0:0≤y) (y1:y<256) (gd:∀i,i<20→0≤gW (Z 0) a y (i+1)∧gW (Z 0) a y (i+1)<65536):
  Calls Tryz.prog 51 #[.pointer (some ⟨b,0,none⟩),.int .i64 a,.int .i64 y] w fun e w'=>e=Ending.returned (.tuple #[])∧HasD w' b c d r P sl (effZ (drawZ Z a y) (effW (Z 0) a) y)∧OnlyE (D24.EY b c d r) w w':=by
 have KW:=fun w=>rreg_any (Z 0) a y g.1.1 w
 have e1:=draw_L1 P sl r c Z a y
 have he:=eff_in (Z 0) a
 obtain ⟨E,hE⟩:∃E,effW (Z 0) a=E:=⟨_,rfl⟩
 rw [hE] at KW he ⊢
 have q18:drawZ Z a y 18=Z 18:=rfl
 have q19:drawZ Z a y 19=Z 19:=rfl
 have q0:drawZ Z a y 0=gW (Z 0) a y:=rfl
 have q8:drawZ Z a y 8=Z 8:=rfl
 have q3:drawZ Z a y 3=Z 3:=rfl
 have wr0:=g.2.2.2.2.2.2.2.2.2.2.2.2.1
 have lo0:=g.2.2.2.2.2.2.2.2.2.2.2.2.2.2.2.1
 have st0:=g.2.2.2.2.2.2.2.2.2.2.2.2.2.2.1
 unfold effZ
 rcases (show E=0∨E=1∨E=2∨E=3∨E=4∨E=5∨E=6∨E=7 by omega) with rfl|rfl|rfl|rfl|rfl|rfl|rfl|rfl
 ·have k:=D24.ydraw_none h a y (g:=iv (Z 0)) rfl KW (mv:=isB (Z 5 0)) rfl
  rw [e1] at k
  exact k
 ·have k:=D24.ydraw_setWrite h a y (g:=iv (Z 0)) rfl KW (mv:=isB (Z 5 0)) rfl
  rw [e1] at k
  exact k
 ·have k:=D24.ydraw_setRead h a y (g:=iv (Z 0)) rfl KW (mv:=isB (Z 5 0)) rfl (gW (Z 0) a y 2) _ (by have q:0≤gW (Z 0) a y 2∧gW (Z 0) a y 2<65536:=gd 1 (by decide);omega) rfl
  rw [e1] at k
  exact k
 ·have k:=D24.ydraw_putLow h a y (g:=iv (Z 0)) rfl KW (mv:=isB (Z 5 0)) rfl y (by omega)
  rw [e1] at k
  exact k
 ·have k:=D24.ydraw_putHigh h a y (g:=iv (Z 0)) rfl KW (mv:=isB (Z 5 0)) rfl (Z 19 3+256*y) _ _ (by omega) rfl wr0.1 wr0.2 (by omega) st0.2 rfl
  rw [e1] at k
  exact k
 ·have k:=D24.ydraw_step h a y (g:=iv (Z 0)) rfl KW (mv:=isB (Z 5 0)) rfl (z:=R15.farOf (R15.pairOf (gW (Z 0) a y 6) 11)) (fun w=>by rw [←gF_eta (gW (Z 0) a y),gF_row];exact R15.rfar_any _ _ _ rfl w)
  rw [e1] at k
  exact k
 ·have hr:0≤gW (Z 0) a y 16∧gW (Z 0) a y 16<65536:=gd 15 (by decide)
  have k:=D24.ydraw_move h a y (g:=iv (Z 0)) rfl KW (mv:=isB (Z 5 0)) rfl (X:=placeAt (gW (Z 0) a y 17%65536) (W13.farOf (gW (Z 0) a y 16) 2) (gW (Z 0) a y 19%65536+1).toNat) (Y:=placeAt (gW (Z 0) a y 18%65536) (W13.farOf (gW (Z 0) a y 16) 3) (gW (Z 0) a y 19%65536+1).toNat)
   (F:=mvTo (Z 18) (gW (Z 0) a y 17%65536) (W13.farOf (gW (Z 0) a y 16) 2) (gW (Z 0) a y 18%65536) (W13.farOf (gW (Z 0) a y 16) 3) (gW (Z 0) a y 19%65536+1).toNat) (L3:=YP P sl r c (moveZ (drawZ Z a y))) (my:=isB (gW (Z 0) a y 16/2%2)) hr.1 (by omega) rfl ⟨rfl,rfl,rfl⟩
   (fun w hh=>by
    rw [e1] at hh
    exact dtell_row (Z:=moveA (drawZ Z a y)) hh g.2.2.1.1 g.2.2.1.2 16 (by decide) (isB (gW (Z 0) a y 16/2%2)))
   (fun w hh=>W13.rmove_is c d (Z 18) _ _ _ _ _ w hh _ _ _ _ _ _ _ _ _ _ (gW (Z 0) a y 19%65536+1).toNat _ rfl rfl rfl rfl (by omega) rfl rfl rfl)
  exact k
 ·have k:=D24.ydraw_sat h a y (g:=iv (Z 0)) rfl KW (mv:=isB (Z 5 0)) rfl (wt:=isB (Z 4 0)) rfl
  rw [e1] at k
  exact k
theorem dw_vdc {w:World} {b c d r:Nat} {P:Int} {sl:Value} {Z:Nat→Nat→Int} (h:HasD w b c d r P sl Z) (g:GoodZ Z) (p n y:Int) (hy:n%256=y) (hk:kindW p=2) (gd:∀i,i<20→0≤gW (Z 0) (atW p) y (i+1)∧gW (Z 0) (atW p) y (i+1)<65536):
  Calls Tryz.prog 9 #[.pointer (some ⟨b,0,none⟩),.int .i64 p,.int .i64 n] w fun e w'=>e=Ending.returned (.tuple #[])∧HasD w' b c d r P sl (effZ (drawZ Z (atW p) y) (effW (Z 0) (atW p)) y)∧OnlyE (D24.EY b c d r) w w':=
 D24.ywrite_vdc p n _ _ (rwhere_at p 2 _ _ hk rfl rfl) y hy (R:=fun w'=>HasD w' b c d r P sl (effZ (drawZ Z (atW p) y) (effW (Z 0) (atW p)) y)∧OnlyE (D24.EY b c d r) w w') (d_draw h g (atW p) y (by omega) (by omega) gd)
end Go.Proofs.YtnllcknfmciebaaGreatDoor.L24
namespace Go.Proofs.YtnllcknfmciebaaGreatDoor.L25
set_option maxRecDepth 20000
open B4 C3 D24 G6 I11 J23 L24 M5 P22 R15 T10 V12 W13
open Go.RowKit
set_option linter.unusedVariables false
theorem doc_rd {w:World} {b' c' d' r' q:Nat} {bs:List Int} {Z:Nat→Nat→Int} (h:∀k,GZ k (Z k)) (hD:HasD w b' c' d' r' ((bs.length/8192:Nat):Int) (.slice (some ⟨q,0,none⟩) bs.length bs.length) (setZ Z)) (hB:Bytes 5 w q bs) (hn:known ((bs.length/8192:Nat):Int)=true) (p:Int):Calls Tryz.prog 7 #[.pointer (some ⟨b',0,none⟩),.int .i64 p] w fun e w'=>e=Ending.returned (.int .i64 (rdV bs Z p))∧HasD w' b' c' d' r' ((bs.length/8192:Nat):Int) (.slice (some ⟨q,0,none⟩) bs.length bs.length) (setZ (rdZ Z p))∧OnlyE (D24.EY b' c' d' r') w w':=by
 have hs:=good_set h
 have gs:=good_of hs
 have e16:setZ Z 16=Z 16:=setZ_no Z 16 (by decide)
 rcases kindW_cases p with ⟨p0,p1,hk⟩|⟨p0,p1,hk⟩|hk|hk|hk|hk|hk|hk|hk
 ·rw [show rdV bs Z p=romB bs Z p by simp [rdV,hk],show rdZ Z p=Z by simp [rdZ,hk]]
  have k:=d_rom hD p hB hn p0 p1
  rw [show romB bs (setZ Z) p=romB bs Z p by unfold romB;rw [setZ_no Z 7 (by decide)]] at k
  exact k.mono fun e w' ⟨e1,b1⟩=>⟨e1,hD.next b1,OnlyE.of b1⟩
 ·rw [show rdV bs Z p=Z 8 (p%8192).toNat by simp [rdV,hk],show rdZ Z p=Z by simp [rdZ,hk]]
  have k:=d_ram hD gs p p0 p1
  rw [setZ_no Z 8 (by decide)] at k
  exact k
 ·by_cases a0:atW p=0
  ·rw [show rdV bs Z p=Z 3 0 by simp [rdV,hk,a0],show rdZ Z p=lookZ Z by simp [rdZ,hk,a0]]
   have k:=d_status hD gs p hk a0
   rw [←set_look h,setZ_no Z 3 (by decide)] at k
   exact k
  by_cases a2:atW p=2
  ·rw [show rdV bs Z p=Z 19 4%256 by simp [rdV,hk,a2],show rdZ Z p=Z by simp [rdZ,hk,a2]]
   have k:=d_low hD gs p hk a2
   rw [setZ_no Z 19 (by decide)] at k
   exact k
  by_cases a3:atW p=3
  ·rw [show rdV bs Z p=Z 19 4/256%256 by simp [rdV,hk,a3],show rdZ Z p=nextZ Z by simp [rdZ,hk,a3]]
   have k:=d_high hD gs p hk a3
   rw [setZ_no Z 19 (by decide),show nextZ (setZ Z)=setZ (nextZ Z) by unfold nextZ;rw [setZ_up _ _ _ (by decide),setZ_no Z 19 (by decide),setZ_no Z 18 (by decide)]] at k
   exact k
  ·rw [show rdV bs Z p=0 by simp [rdV,hk,a0,a2,a3],show rdZ Z p=Z by simp [rdZ,hk,a0,a3]]
   exact d_vdc_no hD gs p hk a0 a2 a3
 ·rw [show rdV bs Z p=vceR (Z 10) (atW p) by simp [rdV,hk],show rdZ Z p=upZ Z 10 (vceN (Z 10) (atW p)) by simp [rdZ,hk]]
  have k:=d_vceR hD gs p hk
  rw [setZ_no Z 10 (by decide),←setZ_up Z 10 _ (by decide)] at k
  exact k
 ·rw [show rdV bs Z p=Z 16 0 by simp [rdV,hk],show rdZ Z p=Z by simp [rdZ,hk]]
  have k:=d_hold hD gs p hk
  rw [e16] at k
  exact k
 ·rw [show rdV bs Z p=Z 16 0/128*128+setZ Z 12 1 by simp [rdV,hk],show rdZ Z p=holdZ (setZ Z) (Z 16 0/128*128+setZ Z 12 1) by simp [rdZ,hk]]
  have k:=d_timer hD gs p hk
  rw [e16] at k
  rw [set_hold,set_set]
  exact k
 ·rw [show rdV bs Z p=padR Z by simp [rdV,hk],show rdZ Z p=holdZ Z (padR Z) by simp [rdZ,hk]]
  have k:=L24.d_pad hD gs p hk
  rw [setZ_no Z 14 (by decide),setZ_no Z 15 (by decide)] at k
  rw [set_hold]
  exact k
 ·by_cases ha:atW p<2
  ·rw [show rdV bs Z p=Z 16 0 by simp [rdV,hk,ha],show rdZ Z p=Z by simp [rdZ,hk,ha]]
   have k:=d_irq0 hD gs p hk ha
   rw [e16] at k
   exact k
  ·rw [show rdV bs Z p=Z 16 0/8*8+readOf (setZ Z 13 0) (setZ Z 13 1) (atW p) by simp [rdV,hk,ha],show rdZ Z p=holdZ (setZ Z) (Z 16 0/8*8+readOf (setZ Z 13 0) (setZ Z 13 1) (atW p)) by simp [rdZ,hk,ha]]
   have k:=d_irq hD gs p hk ha
   rw [e16] at k
   rw [set_hold,set_set]
   exact k
 ·rw [show rdV bs Z p=255 by simp [rdV,hk],show rdZ Z p=Z by simp [rdZ,hk]]
  exact d_open hD gs p hk
theorem doc_wr {w:World} {b' c' d' r' q:Nat} {bs:List Int} {Z:Nat→Nat→Int} (h:∀k,GZ k (Z k)) (hD:HasD w b' c' d' r' ((bs.length/8192:Nat):Int) (.slice (some ⟨q,0,none⟩) bs.length bs.length) (setZ Z)) (hn:bs.length/8192≠320) (p n y:Int) (hy:n%256=y):Calls Tryz.prog 9 #[.pointer (some ⟨b',0,none⟩),.int .i64 p,.int .i64 n] w fun e w'=>e=Ending.returned (.tuple #[])∧HasD w' b' c' d' r' ((bs.length/8192:Nat):Int) (.slice (some ⟨q,0,none⟩) bs.length bs.length) (setZ (wrZ Z p y))∧OnlyE (D24.EY b' c' d' r') w w':=by
 have hs:=good_set h
 have gs:=good_of hs
 rcases kindW_cases p with ⟨p0,p1,hk⟩|⟨p0,p1,hk⟩|hk|hk|hk|hk|hk|hk|hk
 ·rw [show wrZ Z p y=Z by simp [wrZ,hk]]
  exact dw_rom hD gs p n y hy hk (by omega)
 ·rw [show wrZ Z p y=upZ Z 8 (up (Z 8) (p%8192).toNat y) by simp [wrZ,hk]]
  have k:=dw_ram hD gs p n y hy p0 p1
  rw [setZ_no Z 8 (by decide),←setZ_up Z 8 _ (by decide)] at k
  exact k
 ·have gd:=(gW_good h (atW p) y).2
  rw [show wrZ Z p y=effZ (drawZ Z (atW p) y) (effW (Z 0) (atW p)) y by simp [wrZ,hk]]
  have k:=dw_vdc hD gs p n y hy hk (by rw [setZ_no Z 0 (by decide)];exact gd)
  rw [setZ_no Z 0 (by decide),←set_draw,←set_eff (good_draw h _ _)] at k
  exact k
 ·rw [show wrZ Z p y=upZ Z 10 (vceW (Z 10) (atW p) y) by simp [wrZ,hk]]
  have k:=dw_vce hD gs p n y hy hk
  rw [setZ_no Z 10 (by decide),←setZ_up Z 10 _ (by decide)] at k
  exact k
 ·rw [show wrZ Z p y=holdZ (upZ Z 11 (P22.wrF (Z 11) (atW p) y)) y by simp [wrZ,hk]]
  have k:=dw_psg hD gs p n y hy hk
  rw [setZ_no Z 11 (by decide),←setZ_up Z 11 _ (by decide),←set_hold] at k
  exact k
 ·rw [show wrZ Z p y=holdZ (upZ (setZ Z) 12 (timW (setZ Z 12) (atW p) y)) y by simp [wrZ,hk]]
  have k:=dw_timer hD gs p n y hy hk
  rw [set_hold,setZ_flat (upZ (setZ Z) 12 (timW (setZ Z 12) (atW p) y)) rfl rfl]
  exact k
 ·rw [show wrZ Z p y=holdZ (upZ Z 14 (padW (Z 14) y)) y by simp [wrZ,hk]]
  have k:=dw_pad hD gs p n y hy hk
  rw [setZ_no Z 14 (by decide),←setZ_up Z 14 _ (by decide),←set_hold] at k
  exact k
 ·rw [show wrZ Z p y=holdZ (upZ (setZ Z) 13 (twoV (irqM (setZ Z 13 0) (setZ Z 13 1) (atW p) y) (irqL (setZ Z 13 0) (setZ Z 13 1) (atW p) y))) y by simp [wrZ,hk]]
  have k:=dw_irq hD gs p n y hy hk
  rw [set_hold,setZ_flat (upZ (setZ Z) 13 (twoV (irqM (setZ Z 13 0) (setZ Z 13 1) (atW p) y) (irqL (setZ Z 13 0) (setZ Z 13 1) (atW p) y))) rfl rfl]
  exact k
 ·rw [show wrZ Z p y=Z by simp [wrZ,hk]]
  exact dw_open hD gs p n y hy hk
end Go.Proofs.YtnllcknfmciebaaGreatDoor.L25
namespace Go.Proofs.YtnllcknfmciebaaGreatDoor
set_option maxRecDepth 20000
open C3 G6 L24 R15 W13
open Go.ChangeShapes Go.WideShapes Go.RowKit
set_option linter.unusedVariables false
abbrev laidDatas:List (String×DataW Unit):=[("phosphor/region.portPlaces",Rows.laid_phosphor_region_portPlaces),("phosphor/regs.mayHave",Rows.laid_phosphor_regs_mayHave),("phosphor/card.classes",Rows.laid_phosphor_card_classes)]
abbrev laidBus:List (String×DataW Unit):=[("phosphor/region.portPlaces",Rows.laid_phosphor_region_portPlaces),("phosphor/regs.mayHave",Rows.laid_phosphor_regs_mayHave),("errors.errorType",Rows.laid_errors_errorType),("phosphor/card.classes",Rows.laid_phosphor_card_classes)]
theorem Tryz.gTab:Tryz.prog.globalNamed "phosphor/card.classes"=some 2:=by kernel_rfl
theorem Tryz.tTab:(Tryz.prog.globals[2]?).map (·.type)=some 192:=by kernel_rfl
theorem tab_flat:flat Tryz.prog 40 192 Rows.laid_phosphor_card_classes=some tabCells.toList:=by kernel_rfl
theorem Tryz.gReg:Tryz.prog.globalNamed "phosphor/region.portPlaces"=some 1:=by kernel_rfl
theorem Tryz.tReg:(Tryz.prog.globals[1]?).map (·.type)=some 43:=by kernel_rfl
theorem reg_flat:flat Tryz.prog 40 43 Rows.laid_phosphor_region_portPlaces=some portCells.toList:=by kernel_rfl
theorem Tryz.gMask:Tryz.prog.globalNamed "phosphor/regs.mayHave"=some 3:=by kernel_rfl
theorem Tryz.tMask:(Tryz.prog.globals[3]?).map (·.type)=some 34:=by kernel_rfl
theorem mask_flat:flat Tryz.prog 40 34 Rows.laid_phosphor_regs_mayHave=some maskCells.toList:=by kernel_rfl
theorem Tryz.gErr:Tryz.prog.globalNamed "errors.errorType"=some 0:=by kernel_rfl
theorem Tryz.rt:(Tryz.prog.cutTypes.find? (·.1== "internal/reflectlite.rtype")).map (·.2)=some 206:=by kernel_rfl
theorem Tryz.oneRow:((List.range 257).filter fun t=>Tryz.prog.rowNamed t [101,114,114,111,114])=[127]:=by kernel_rfl
theorem Tryz.size:Tryz.prog.types.size=257:=by kernel_rfl
theorem laid_bus {W:World} (h:laidMetH Tryz.prog laidBus W):Tabs W∧HasErr W:=by
 have h':laidMet Tryz.prog laidDatas W∧handlesMet Tryz.prog [("errors.errorType",Rows.laid_errors_errorType)] W:=h
 constructor
 ·obtain ⟨ps,⟨g,t,cs,fuel,p,q,e1,e2,e3,e4,x,_⟩,_⟩:=h'.1
  refine ⟨?_,?_,?_⟩
  ·obtain ⟨g,t,cs,fuel,p,q,e1,e2,e3,e4,x,_⟩:=x
   obtain ⟨g,t,cs,fuel,p,q,e1,e2,e3,e4,_,_⟩:=x
   obtain rfl:=Option.some.inj (Tryz.gTab.symm.trans e1)
   obtain rfl:=Option.some.inj (Tryz.tTab.symm.trans e2)
   have hc:=flat_at 40 fuel 192 _ _ _ _ tab_flat e4
   have hc2:cs=tabCells:=Array.toList_inj.1 hc
   subst hc2
   simp only [World.var?,Tryz.gTab,Option.bind_some] at e3
   split at e3
   ·rename_i cs' t' fr hh
    obtain rfl:=Option.some.inj e3
    exact ⟨t',fr,hh⟩
   ·cases e3
  ·clear x
   obtain rfl:=Option.some.inj (Tryz.gReg.symm.trans e1)
   obtain rfl:=Option.some.inj (Tryz.tReg.symm.trans e2)
   have hc:=flat_at 40 fuel 43 _ _ _ _ reg_flat e4
   have hc2:cs=portCells:=Array.toList_inj.1 hc
   subst hc2
   simp only [World.var?,Tryz.gReg,Option.bind_some] at e3
   split at e3
   ·rename_i cs' t' fr hh
    obtain rfl:=Option.some.inj e3
    exact ⟨t',fr,hh⟩
   ·cases e3
  ·obtain ⟨g,t,cs,fuel,p,q,e1,e2,e3,e4,x,_⟩:=x
   clear x
   obtain rfl:=Option.some.inj (Tryz.gMask.symm.trans e1)
   obtain rfl:=Option.some.inj (Tryz.tMask.symm.trans e2)
   have hc:=flat_at 40 fuel 34 _ _ _ _ mask_flat e4
   have hc2:cs=maskCells:=Array.toList_inj.1 hc
   subst hc2
   simp only [World.var?,Tryz.gMask,Option.bind_some] at e3
   split at e3
   ·rename_i cs' t' fr hh
    obtain rfl:=Option.some.inj e3
    exact ⟨t',fr,hh⟩
   ·cases e3
 ·obtain ⟨name,u,ty,e1,e2,e3,e4,e5⟩:=h'.2 _ (List.mem_singleton.2 rfl)
  have en:name=[101,114,114,111,114]:=(Option.some.inj e1).symm
  subst en
  obtain rfl:=Option.some.inj (Tryz.rt.symm.trans e2)
  have hm:ty ∈ (List.range 257).filter fun t=>Tryz.prog.rowNamed t [101,114,114,111,114]:=List.mem_filter.2 ⟨List.mem_range.2 (by rw [←Tryz.size];exact e3),e4⟩
  rw [Tryz.oneRow] at hm
  obtain rfl:=List.mem_singleton.1 hm
  have hh:typeHandle Tryz.prog 127=.pointer (some ⟨4,127,none⟩):=by kernel_rfl
  rw [hh] at e5
  unfold HasErr
  simpa using World.var?_cell Tryz.gErr e5 0
noncomputable def laidWorld (os:Os):World:=
 let w0:=World.holding Tryz.prog os ⟨#[],#[],[]⟩
 { w0 with heap:=(((w0.heap.modify 0 fun
  |.cells _ t frozen=>.cells #[.iface 206 (.agg #[.pointer (some ⟨4,127,none⟩)])] t frozen
  |o=>o).modify 2 fun
  |.cells _ t frozen=>.cells tabCells t frozen
  |o=>o).modify 1 fun
  |.cells _ t frozen=>.cells portCells t frozen
  |o=>o).modify 3 fun
  |.cells _ t frozen=>.cells maskCells t frozen
  |o=>o }
theorem laidWorld_bus (os:Os) (args:Array Value):laidMetH Tryz.prog laidBus ((laidWorld os).forCall (fun _ _=>0) ⟨#[],args,[]⟩).memory:=
 laidMetH_of_parts (laidMet_of_run' 8 (by kernel_rfl) (by kernel_rfl)) (by kernel_rfl)
end Go.Proofs.YtnllcknfmciebaaGreatDoor
