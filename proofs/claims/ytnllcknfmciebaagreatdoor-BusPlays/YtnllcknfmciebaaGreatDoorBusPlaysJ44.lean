/- The document's machine in a state: what is read of it, and what a write leaves. -/
import Derived.Test.YtnllcknfmciebaaGreatDoorBusPlaysJ36
import Derived.Test.YtnllcknfmciebaaGreatDoorBusPlaysJ42
import Derived.Test.YtnllcknfmciebaaGreatDoorBusPlaysJ19
import Derived.Test.YtnllcknfmciebaaGreatDoorBusPlaysJ21
import Derived.Test.YtnllcknfmciebaaGreatDoorBusPlaysJ43
import Derived.Test.YtnllcknfmciebaaGreatDoorBusPlaysJ24
namespace Go.Proofs.YtnllcknfmciebaaGreatDoor.L24
set_option maxRecDepth 20000
open B4 C3 D24 G6 I11 J23 M5 P22 R15 T10 V12 W13
open Go.RowKit
set_option linter.unusedVariables false
theorem rwhere_at (p k g a:Int) (hk:kindW p=k) (hg:pageW p=g) (ha:atW p=a):∀w,Calls Tryz.prog 33 #[.int .i64 p] w fun e w'=>e=Ending.returned (.tuple #[.int .i64 k,.int .i64 g,.int .i64 a])∧w'=w:=fun w=>by
 have:=rwhere_any p w
 rw [hk,hg,ha] at this
 exact this
theorem ey_same {b c d r:Nat} {w w':World} (h:w'=w):OnlyE (D24.EY b c d r) w w':=by subst h;exact OnlyE.of (Below.refl _ _)
theorem d_rom {w:World} {b c d r:Nat} {Z:Nat→Nat→Int} {q:Nat} {bs:List Int} (h:HasD w b c d r ((bs.length/8192:Nat):Int) (.slice (some ⟨q,0,none⟩) bs.length bs.length) Z) (p:Int) (hq:Bytes 5 w q bs) (hn:known ((bs.length/8192:Nat):Int)=true) (p0:0≤p) (p1:p<1048576):
  Calls Tryz.prog 7 #[.pointer (some ⟨b,0,none⟩),.int .i64 p] w fun e w'=>e=Ending.returned (.int .i64 (romB bs Z p))∧Below w.heap.size w w':=by
 have k:=page_in hn (Z 7 0) (p/8192).toNat (by omega)
 rw [show (((p/8192).toNat:Nat):Int)=p/8192 by omega] at k
 have k2:=known_le hn
 unfold romB
 exact D24.yread_rom h p (p/8192) (p%8192) (rwhere_at p 0 (p/8192) (p%8192) (by unfold kindW;rw [if_neg (by omega),if_pos (by omega)]) (by unfold pageW;rw [if_pos (by omega)]) (by unfold atW kindW;rw [if_pos];rw [if_neg (by omega),if_pos (by omega)];exact .inl rfl)) (P:=((bs.length/8192:Nat):Int)) (lt:=Z 7 0) rfl rfl (q:=q) (n:=bs.length) rfl hq rfl
  (x:=pageOf ((bs.length/8192:Nat):Int) (Z 7 0) (p/8192)) (fun w=>rpage_any _ _ _ w) k.1 (by omega) (by omega) (by omega) _ (by omega) (by omega)
theorem d_ram {w:World} {b c d r:Nat} {P:Int} {sl:Value} {Z:Nat→Nat→Int} (h:HasD w b c d r P sl Z) (g:GoodZ Z) (p:Int) (p0:2031616≤p) (p1:p<2064384):Calls Tryz.prog 7 #[.pointer (some ⟨b,0,none⟩),.int .i64 p] w fun e w'=>e=Ending.returned (.int .i64 (Z 8 (p%8192).toNat))∧HasD w' b c d r P sl Z∧OnlyE (D24.EY b c d r) w w':=
 (D24.yread_ram h p 0 (p%8192) (rwhere_at p 1 0 (p%8192) (kind_ram p0 p1).1 (kind_ram p0 p1).2.1 (kind_ram p0 p1).2.2) (p%8192).toNat (by omega) (by omega)).mono fun e w' ⟨e1,hw⟩=>⟨e1,by rw [hw];exact h,ey_same hw⟩
theorem d_open {w:World} {b c d r:Nat} {P:Int} {sl:Value} {Z:Nat→Nat→Int} (h:HasD w b c d r P sl Z) (g:GoodZ Z) (p:Int) (hk:kindW p=8):Calls Tryz.prog 7 #[.pointer (some ⟨b,0,none⟩),.int .i64 p] w fun e w'=>e=Ending.returned (.int .i64 255)∧HasD w' b c d r P sl Z∧OnlyE (D24.EY b c d r) w w':=(D24.yread_open p _ _ (rwhere_at p 8 _ _ hk rfl rfl)).mono fun e w' ⟨e1,hw⟩=>⟨e1,by rw [hw];exact h,ey_same hw⟩
theorem d_hold {w:World} {b c d r:Nat} {P:Int} {sl:Value} {Z:Nat→Nat→Int} (h:HasD w b c d r P sl Z) (g:GoodZ Z) (p:Int) (hk:kindW p=4):Calls Tryz.prog 7 #[.pointer (some ⟨b,0,none⟩),.int .i64 p] w fun e w'=>e=Ending.returned (.int .i64 (Z 16 0))∧HasD w' b c d r P sl Z∧OnlyE (D24.EY b c d r) w w':=(D24.yread_psg h p _ _ (rwhere_at p 4 _ _ hk rfl rfl) rfl trivial).mono fun e w' ⟨e1,hw⟩=>⟨e1,by rw [hw];exact h,ey_same hw⟩
theorem d_irq0 {w:World} {b c d r:Nat} {P:Int} {sl:Value} {Z:Nat→Nat→Int} (h:HasD w b c d r P sl Z) (g:GoodZ Z) (p:Int) (hk:kindW p=7) (ha:atW p<2):Calls Tryz.prog 7 #[.pointer (some ⟨b,0,none⟩),.int .i64 p] w fun e w'=>e=Ending.returned (.int .i64 (Z 16 0))∧HasD w' b c d r P sl Z∧OnlyE (D24.EY b c d r) w w':=(D24.yread_irq0 h p _ _ (rwhere_at p 7 _ _ hk rfl rfl) rfl ha).mono fun e w' ⟨e1,hw⟩=>⟨e1,by rw [hw];exact h,ey_same hw⟩
theorem d_timer {w:World} {b c d r:Nat} {P:Int} {sl:Value} {Z:Nat→Nat→Int} (h:HasD w b c d r P sl Z) (g:GoodZ Z) (p:Int) (hk:kindW p=5):Calls Tryz.prog 7 #[.pointer (some ⟨b,0,none⟩),.int .i64 p] w fun e w'=>e=Ending.returned (.int .i64 (Z 16 0/128*128+Z 12 1))∧HasD w' b c d r P sl (holdZ Z (Z 16 0/128*128+Z 12 1))∧OnlyE (D24.EY b c d r) w w':=
 D24.yread_timer h p _ _ (rwhere_at p 5 _ _ hk rfl rfl) (hd:=Z 16 0) (n:=Z 12 1) rfl (t:=tvZ (Z 12)) rfl rfl g.2.2.2.2.2.2.2.2.2.1.1 g.2.2.2.2.2.2.2.2.2.1.2 (okT_true g.2.2.2.2.2.2.2.1).2.2.1 (by have:=(okT_true g.2.2.2.2.2.2.2.1).2.2.2.1;omega) rfl rfl
theorem d_pad {w:World} {b c d r:Nat} {P:Int} {sl:Value} {Z:Nat→Nat→Int} (h:HasD w b c d r P sl Z) (g:GoodZ Z) (p:Int) (hk:kindW p=6):Calls Tryz.prog 7 #[.pointer (some ⟨b,0,none⟩),.int .i64 p] w fun e w'=>e=Ending.returned (.int .i64 (J23.rdOf (isB (Z 14 0)) (isB (Z 14 2)) (Z 14 3) (fun n=>Z 15 (2*n)) (fun n=>isB (Z 15 (2*n+1))) false))∧HasD w' b c d r P sl (holdZ Z (J23.rdOf (isB (Z 14 0)) (isB (Z 14 2)) (Z 14 3) (fun n=>Z 15 (2*n)) (fun n=>isB (Z 15 (2*n+1))) false))∧OnlyE (D24.EY b c d r) w w':=
 D24.yread_pad h p _ _ (rwhere_at p 6 _ _ hk rfl rfl) (hd:=Z 16 0) rfl (po:=pvZ (Z 14)) rfl (pa:=pcZ (Z 15)) rfl (fun w=>J23.rread_any (isB (Z 14 0)) (isB (Z 14 1)) (isB (Z 14 2)) (Z 14 3) (fun n=>Z 15 (2*n)) (fun n=>isB (Z 15 (2*n+1))) false w)
theorem d_irq {w:World} {b c d r:Nat} {P:Int} {sl:Value} {Z:Nat→Nat→Int} (h:HasD w b c d r P sl Z) (g:GoodZ Z) (p:Int) (hk:kindW p=7) (ha:¬atW p<2):Calls Tryz.prog 7 #[.pointer (some ⟨b,0,none⟩),.int .i64 p] w fun e w'=>e=Ending.returned (.int .i64 (Z 16 0/8*8+readOf (Z 13 0) (Z 13 1) (atW p)))∧HasD w' b c d r P sl (holdZ Z (Z 16 0/8*8+readOf (Z 13 0) (Z 13 1) (atW p)))∧OnlyE (D24.EY b c d r) w w':=by
 have hy:0≤readOf (Z 13 0) (Z 13 1) (atW p)∧readOf (Z 13 0) (Z 13 1) (atW p)<256:=by
  unfold readOf
  split
  ·omega
  ·split<;>omega
 exact D24.yread_irq h p _ _ (rwhere_at p 7 _ _ hk rfl rfl) ha (hd:=Z 16 0) (m:=Z 13 0) (l:=Z 13 1) rfl rfl rfl g.2.2.2.2.2.2.2.2.2.1.1 g.2.2.2.2.2.2.2.2.2.1.2 (fun w=>rread_any _ _ _ w) hy.1 hy.2 rfl rfl
theorem d_status {w:World} {b c d r:Nat} {P:Int} {sl:Value} {Z:Nat→Nat→Int} (h:HasD w b c d r P sl Z) (g:GoodZ Z) (p:Int) (hk:kindW p=2) (ha:atW p=0):Calls Tryz.prog 7 #[.pointer (some ⟨b,0,none⟩),.int .i64 p] w fun e w'=>e=Ending.returned (.int .i64 (Z 3 0))∧HasD w' b c d r P sl (lookZ Z)∧OnlyE (D24.EY b c d r) w w':=
 D24.yread_vdc p _ _ (rwhere_at p 2 _ 0 hk rfl ha) (R:=fun w'=>HasD w' b c d r P sl (lookZ Z)∧OnlyE (D24.EY b c d r) w w') (D24.yvideo_0 h (s:=Z 3 0) (m:=Z 13 0) (l:=Z 13 1) rfl rfl rfl (fun w=>rraise_any _ _ 2 false w))
theorem d_vdc_no {w:World} {b c d r:Nat} {P:Int} {sl:Value} {Z:Nat→Nat→Int} (h:HasD w b c d r P sl Z) (g:GoodZ Z) (p:Int) (hk:kindW p=2) (a0:¬atW p=0) (a2:¬atW p=2) (a3:¬atW p=3):Calls Tryz.prog 7 #[.pointer (some ⟨b,0,none⟩),.int .i64 p] w fun e w'=>e=Ending.returned (.int .i64 0)∧HasD w' b c d r P sl Z∧OnlyE (D24.EY b c d r) w w':=
 D24.yread_vdc p _ _ (rwhere_at p 2 _ _ hk rfl rfl) (R:=fun w'=>HasD w' b c d r P sl Z∧OnlyE (D24.EY b c d r) w w') ((D24.yvideo_no h _ a0 a2 a3).mono fun e w' ⟨e1,hw⟩=>⟨e1,by rw [hw];exact h,ey_same hw⟩)
theorem d_low {w:World} {b c d r:Nat} {P:Int} {sl:Value} {Z:Nat→Nat→Int} (h:HasD w b c d r P sl Z) (g:GoodZ Z) (p:Int) (hk:kindW p=2) (ha:atW p=2):Calls Tryz.prog 7 #[.pointer (some ⟨b,0,none⟩),.int .i64 p] w fun e w'=>e=Ending.returned (.int .i64 (Z 19 4%256))∧HasD w' b c d r P sl Z∧OnlyE (D24.EY b c d r) w w':=
 D24.yread_vdc p _ _ (rwhere_at p 2 _ 2 hk rfl ha) (R:=fun w'=>HasD w' b c d r P sl Z∧OnlyE (D24.EY b c d r) w w') ((D24.yvideo_2 h g.2.2.2.2.2.2.2.2.2.2.2.2.2.2.2.2.1.1 g.2.2.2.2.2.2.2.2.2.2.2.2.2.2.2.2.1.2).mono fun e w' ⟨e1,hw⟩=>⟨e1,by rw [hw];exact h,ey_same hw⟩)
theorem d_high {w:World} {b c d r:Nat} {P:Int} {sl:Value} {Z:Nat→Nat→Int} (h:HasD w b c d r P sl Z) (g:GoodZ Z) (p:Int) (hk:kindW p=2) (ha:atW p=3):Calls Tryz.prog 7 #[.pointer (some ⟨b,0,none⟩),.int .i64 p] w fun e w'=>e=Ending.returned (.int .i64 (Z 19 4/256%256))∧HasD w' b c d r P sl (nextZ Z)∧OnlyE (D24.EY b c d r) w w':=
 D24.yread_vdc p _ _ (rwhere_at p 2 _ 3 hk rfl ha) (R:=fun w'=>HasD w' b c d r P sl (nextZ Z)∧OnlyE (D24.EY b c d r) w w') (D24.yvideo_3 h g.2.2.2.2.2.2.2.2.2.2.2.2.2.2.2.2.1.1 g.2.2.2.2.2.2.2.2.2.2.2.2.2.2.2.2.1.2 g.2.2.2.2.2.2.2.2.2.2.2.2.2.1.1 g.2.2.2.2.2.2.2.2.2.2.2.2.2.1.2 (by have:=g.2.2.2.2.2.2.2.2.2.2.2.2.2.2.1.1;omega) g.2.2.2.2.2.2.2.2.2.2.2.2.2.2.1.2 _ _ rfl rfl)
end Go.Proofs.YtnllcknfmciebaaGreatDoor.L24
