/- Texts put together. -/
import Derived.Test.YtoijhhbiknhlnaaGreatDoorCpuSpeedsJ49
import Derived.Test.YtoijhhbiknhlnaaGreatDoorCpuSpeedsJ50
import Derived.Test.YtoijhhbiknhlnaaGreatDoorCpuSpeedsJ51
import Derived.Test.YtoijhhbiknhlnaaGreatDoorRows
import Derived.Test.YtoijhhbiknhlnaaGreatDoorCpuSpeedsJ13
import Derived.Test.YtoijhhbiknhlnaaGreatDoorCpuSpeedsJ03
import Derived.Test.YtoijhhbiknhlnaaGreatDoorCpuSpeedsJ04
import Derived.Test.YtoijhhbiknhlnaaGreatDoorCpuSpeedsJ06
import Derived.Test.YtoijhhbiknhlnaaGreatDoorCpuSpeedsJ26
import Derived.Test.YtoijhhbiknhlnaaGreatDoorCpuSpeedsJ01
import Derived.ChangeSame
import Derived.ChangeVars
import Derived.JoinedOf
import Derived.RowKit
import Derived.RowKitTokens
import Derived.LaidLaws
import Derived.LaidHandle
import Derived.Stop.Joined
namespace Go.Proofs.YtoijhhbiknhlnaaGreatDoor
set_option maxHeartbeats 2000000
set_option maxRecDepth 20000
open A2 B4 C3 D24 G6 I11 J23 K9 L24 L25 M5 N8 O7 P22 R15 T10 V12 W13
open Go.RowKit
set_option linter.unusedVariables false
theorem sp_h {bs:List Int} {M:Nat→Int} (h0:M 1024=((212:Nat):Int)):ztr bs Yp M 0 0 0 255 0 1024 false 0 Yp M 0 0 0 255 0 1025 true 0 3:=by
 refine zma (zic zib 0) zB zB zB mB zB (by decide) h0 (by decide) (by kernel_rfl) (by rw [show zcW 212=⟨#[67,83,72]⟩ by kernel_rfl];exact zAL) ?_;rw [zqC,show zce 212=1 by kernel_rfl,show zdZ 212=3 by kernel_rfl,show anP 0 32=0 by unfold anP;decide +kernel,pc1];rfl
theorem sp_l {bs:List Int} {M:Nat→Int} (h0:M 1025=((84:Nat):Int)):ztr bs Yp M 0 0 0 255 0 1025 true 0 Yp M 0 0 0 255 0 1026 false 0 3:=by
 refine zma (zic zib 0) zB zB zB mB zB (by decide) h0 (by decide) (by kernel_rfl) (by rw [show zcW 84=⟨#[67,83,76]⟩ by kernel_rfl];exact zAK) ?_;rw [zqC,show zce 84=1 by kernel_rfl,show zdZ 84=3 by kernel_rfl,show anP 0 32=0 by unfold anP;decide +kernel,pc1];rfl
theorem ztA {C:Nat→Int} {sc:Option Addr} {lc cc:Nat} {w:World} (hL:Tabs w∧HasErr w∧CT w) (hC:SlB w sc lc C) (h0:0<lc):
  Calls Tryz.prog 16 #[.slice sc lc cc,.slice none 0 0] w fun e w'=>∃b v c d bs M,e=Ending.returned (.tuple #[.pointer (some ⟨b,0,none⟩),.agg #[.int .i64 0,.int .i64 0,.int .i64 0,.int .i64 255,.int .i64 0,.int .i64 9216,.bool false,.int .i64 0]])∧HasC w' b v c d bs Yp M∧M 1024=C 0∧(w.heap.size≤b∧w.heap.size≤v)∧Below w.heap.size w w':=by
 have e0:∀n,0<n→putM C (fun _=>0) n 0 1024=C 0:=fun n hn=>by
  unfold putM;rw [if_neg (by omega),if_pos (by omega)]
 by_cases h:lc≤200
 ·refine (zki hL hC (zeZ w fun _=>0) h (by decide)).mono ?_;rintro e w' ⟨b,v,c,d,bs,r,hc,hb,bw⟩;exact ⟨b,v,c,d,bs,_,r,hc,e0 lc h0,hb,bw⟩
 ·refine (ztz hL.1 hL.2.1 hC (zeZ w fun _=>0) (by omega) (by decide)).mono ?_;rintro e w' ⟨b,v,c,d,bs,r,hl,hp,hb,bw⟩;have sz:=zka hL;have hC2:SlB w sc 200 C:=⟨by decide,fun i hi=>hC.2 i (by omega)⟩
  exact ⟨b,v,c,d,bs,_,r,zlZ hp (hL.2.2.next bw) hl (by omega) (zqO hC2 (zeZ w fun _=>0)),e0 200 (by decide),hb,bw⟩
theorem zqQ {w:World} {b v c d n:Nat} {bs:List Int} {M:Nat→Int} (h:HasC w b v c d bs Yp M) (hM:M 1024=(n:Int)) (hn:n<256) (h1:n≠212) (h2:n≠84) (f:Bool):∃a' x' y' s' p' q' l' cy,Calls Tryz.prog 13 #[.agg #[.int .i64 0,.int .i64 0,.int .i64 0,.int .i64 255,.int .i64 0,.int .i64 9216,.bool f,.int .i64 0],.pointer (some ⟨b,0,none⟩)] w fun e w'=>e=Ending.returned (.tuple #[.agg #[.int .i64 a',.int .i64 x',.int .i64 y',.int .i64 s',.int .i64 p',.int .i64 q',.bool f,.int .i64 l'],.int .i64 cy])∧OnlyE (EX b v) w w':=by
 obtain ⟨R0,f0,l0,c0,m⟩:=h;have hs:=zib.2.1;have e:fN bs (inZ (cz Yp M R0 f0 l0 c0) (rg 0 0 0 255 0 9216) f 0)=n:=by
  rw [zuj hs,zqz zB zB zB mB zB (by decide)];unfold fN;rw [zwN bs zib.1 (q:=1024) rfl (by decide),hM];omega
 exact znE m (rg 0 0 0 255 0 9216) f 0 0 (by
  rw [zqD,hs,show cz Yp M R0 f0 l0 c0 13 0=0 from zib.2.2.1,show cz Yp M R0 f0 l0 c0 13 1=0 from zib.2.2.2]
  exact fun w hw=>zkb _ w hw) (by rw [e];exact hn) (by rw [e];exact h1) (by rw [e];exact h2)
theorem zhC (a0:Option Addr) (len0 cap0:Nat) (z0:List Int) (a1:Int) (W:World) (w0:IsRow .u8 W a0 len0 cap0 z0) (w1:(Lit.int .i64 a1).wf=true) (hL:Tabs W∧HasErr W∧CT W):
  Calls Tryz.prog 11 #[.slice a0 len0 cap0,.int .i64 a1] W fun e w'=>e=.returned (.bool true)∧Below W.heap.size W w':=by
 obtain ⟨cy,hcy,eC⟩:∃cy:Int,(0≤cy∧cy<16777216)∧bits .and .i64 a1 16777215=cy:=⟨_,by rw [show bits .and .i64 a1 16777215=a1%16777216 from zbM 24 (by decide) a1];omega,rfl⟩
 have HCY:=hide hcy;have HL:=hide hL;have HR:=hide w0;clear hL w1 w0;rcases Nat.eq_zero_or_pos len0 with h0|h0
 ·subst h0;go_enter Tryz.func11,Tryz.ntmps11;go_wp2_with fail;obtain ⟨wa,hwa⟩:∃wa,W.alloc (.cells (([212,84]:List Int).map (Value.int .u8)).toArray 5)=wa:=⟨_,rfl⟩
  have hwb:=hwa;simp only [List.map_cons,List.map_nil] at hwb;rw [hwb];clear hwb;have B0:=hide (show Below W.heap.size W wa by rw [←hwa];exact (Below.refl _ W).alloc (Nat.le_refl _) _);have SL:=hide (show SlB wa (some ⟨W.heap.size,0,none⟩) 2 (fun i=>[212,84].getD i 0) from zja (l:=[212,84]) (by rw [←hwa];exact heap_alloc_new _ _) (show 2≤9223372036854775807 by decide) (fun y hy=>by simp only [List.mem_cons,List.not_mem_nil,or_false] at hy;omega));clear hwa;refine (zki ⟨HL.out.1.next B0.out,HL.out.2.1.next B0.out,HL.out.2.2.next B0.out⟩ SL.out (zeZ wa fun _=>0) (by decide) (by decide)).mono ?_;rintro e w1 ⟨b,v,c,d,bs,rfl,hc,⟨lb,lv⟩,b1⟩;have H1:=hide hc;have B1:=hide (zar B0.out b1);have LB:=hide (show W.heap.size≤b∧W.heap.size≤v by have:=B0.out.size;omega);clear hc lb lv b1 SL B0;obtain ⟨M0,hM⟩:∃M,M=putM (fun i=>[212,84].getD i 0) (fun _=>0) 2 0:=⟨_,rfl⟩
  rw [←hM] at H1;have GH:=hide (sp_h (bs:=bs) (M:=M0) (by rw [hM];rfl));have GL:=hide (sp_l (bs:=bs) (M:=M0) (by rw [hM];rfl));clear hM;have S0:=hide (ztt (zgw H1.out B1.out LB.out #[.int .i64 0,.int .i64 0,.int .i64 0,.int .i64 0,.int .i64 0,.int .i64 0,.bool false,.int .i64 0]));clear H1 B1 LB
  go_wp2_with (first
   |(refine zgy rfl (.tmp 6) (.tmp 21) rfl S0.out rfl rfl _ rfl rfl (by kernel_rfl) ?_;intro x0 h2;have S2:=hide h2;clear h2 S0)
   |(refine zjd rfl (.tmp 6) rfl ?_;refine zjc rfl (.tmp 6) rfl S2.out rfl rfl ?_)
   |(go_at_call 13;refine (zet S2.out GH.out).mono ?_;rintro e w3 ⟨rfl,h3⟩;have S3:=hide h3;clear h3 S2 GH)
   |(go_at_call 13;refine (zet (zgz S3.out _) GL.out).mono ?_;rintro e w4 ⟨rfl,h4⟩;have d0:=zbx h4 0 (x:=.int .i64 0) rfl;have d1:=zbx h4 1 (x:=.int .i64 0) rfl;have d2:=zbx h4 2 (x:=.int .i64 0) rfl;have d3:=zbx h4 3 (x:=.int .i64 255) rfl;have d4:=zbx h4 4 (x:=.int .i64 0) rfl;have d5:=zbx h4 5 (x:=.int .i64 9217) rfl;have d6:=zbx h4 6 (x:=.bool true) rfl;have d7:=zbx h4 7 (x:=.int .i64 0) rfl;have l4:=zmb h4;have S4:=hide (zjb h4 ((Below.refl _ w4).alloc (Nat.le_refl _) (.cells #[.int .i64 0,.int .i64 0,.int .i64 0,.int .i64 255,.int .i64 0,.int .i64 9218,.bool false,.int .i64 0] 58)));have HE4:=hide (heap_alloc_new w4 (.cells #[.int .i64 0,.int .i64 0,.int .i64 0,.int .i64 255,.int .i64 0,.int .i64 9218,.bool false,.int .i64 0] 58));clear h4 S3 GL)
   |(go_at_call_of 15 (Value.agg #[.int .i64 0,.int .i64 0,.int .i64 0,.int .i64 255,.int .i64 0,.int .i64 9217,.bool true,.int .i64 0]);refine (zdx 0 0 0 255 0 9217 true 0 cy HCY.out _).mono ?_;rintro e w5 ⟨rfl,b5⟩;rw [if_pos rfl];have t0:=zaL b5 HE4.out 0;have t1:=zaL b5 HE4.out 1;have t2:=zaL b5 HE4.out 2;have t3:=zaL b5 HE4.out 3;have t4:=zaL b5 HE4.out 4;have t5:=zaL b5 HE4.out 5;have t6:=zaL b5 HE4.out 6;have t7:=zaL b5 HE4.out 7;have B5:=hide (zar (zgx S4.out) b5);clear b5 d0 d1 d2 d3 d4 d5 d6 d7 l4 S4 HE4)
   |(go_at_call 15;refine (zdx 0 0 0 255 0 9218 false 0 cy HCY.out _).mono ?_;rintro e w6 ⟨rfl,b6⟩;rw [if_neg (by decide)];have B6:=hide (zar B5.out b6);skip;clear b6 B5 t0 t1 t2 t3 t4 t5 t6 t7))
  all_goals first|(go_ret;exact ⟨rfl,B6.out⟩)|trace_state
 ·obtain ⟨bb,off,rfl,hbb,hlc,hcm,hcell⟩:=HR.out.cells h0;obtain ⟨c0,k0⟩:=hcell 0 h0;have u0:=zlg k0;obtain ⟨n,hn,en⟩:∃n:Nat,n<256∧z0.getD 0 0=(n:Int):=⟨(z0.getD 0 0).toNat,by omega,by omega⟩
  rw [en,Nat.add_zero] at c0;have HC0:=hide (show W.cell? ⟨bb,off,none⟩=some (.int .u8 (n:Int)) from c0);have HB:=hide hbb;have SC:=hide (show SlB W (some ⟨bb,off,none⟩) len0 (fun i=>z0.getD i 0) from ⟨by unfold maxLen at hcm;omega,fun i hi=>⟨bb,off,rfl,(hcell i hi).1,hbb,by have:=zlg (hcell i hi).2;exact this⟩⟩);have EN:=hide en;have hp0:¬(len0:Int)=0:=by omega
  have hpb:((len0:Int)==0)=false:=by simpa using hp0
  clear c0 k0 u0 hcell hbb en HR
  by_cases h1:n=212
  ·subst h1;go_enter Tryz.func11,Tryz.ntmps11;go_wp2_with fail;obtain ⟨wa,hwa⟩:∃wa,W.alloc (.cells (([212,84]:List Int).map (Value.int .u8)).toArray 5)=wa:=⟨_,rfl⟩
   have hwb:=hwa;simp only [List.map_cons,List.map_nil] at hwb;rw [hwb];clear hwb;have B0:=hide (show Below W.heap.size W wa by rw [←hwa];exact (Below.refl _ W).alloc (Nat.le_refl _) _);have SL:=hide (show SlB wa (some ⟨W.heap.size,0,none⟩) 2 (fun i=>[212,84].getD i 0) from zja (l:=[212,84]) (by rw [←hwa];exact heap_alloc_new _ _) (show 2≤9223372036854775807 by decide) (fun y hy=>by simp only [List.mem_cons,List.not_mem_nil,or_false] at hy;omega));clear hwa;refine (zki ⟨HL.out.1.next B0.out,HL.out.2.1.next B0.out,HL.out.2.2.next B0.out⟩ SL.out (zeZ wa fun _=>0) (by decide) (by decide)).mono ?_;rintro e w1 ⟨b,v,c,d,bs,rfl,hc,⟨lb,lv⟩,b1⟩;have H1:=hide hc;have B1:=hide (zar B0.out b1);have LB:=hide (show W.heap.size≤b∧W.heap.size≤v by have:=B0.out.size;omega);clear hc lb lv b1 SL B0;obtain ⟨M0,hM⟩:∃M,M=putM (fun i=>[212,84].getD i 0) (fun _=>0) 2 0:=⟨_,rfl⟩
   rw [←hM] at H1;have GH:=hide (sp_h (bs:=bs) (M:=M0) (by rw [hM];rfl));have GL:=hide (sp_l (bs:=bs) (M:=M0) (by rw [hM];rfl));clear hM;have S0:=hide (ztt (zgw H1.out B1.out LB.out #[.int .i64 0,.int .i64 0,.int .i64 0,.int .i64 0,.int .i64 0,.int .i64 0,.bool false,.int .i64 0]));clear H1 B1 LB
   go_wp2_with (first
    |(refine zgy rfl (.tmp 6) (.tmp 21) rfl S0.out rfl rfl _ rfl rfl (by kernel_rfl) ?_;intro x0 h2;have S2:=hide h2;clear h2 S0)
    |(refine zjd rfl (.tmp 6) rfl ?_;refine zjc rfl (.tmp 6) rfl S2.out rfl rfl ?_)
    |(go_at_call 13;refine (zet S2.out GH.out).mono ?_;rintro e w3 ⟨rfl,h3⟩;have S3:=hide h3;clear h3 S2 GH)
    |(go_at_call 13;refine (zet (zgz S3.out _) GL.out).mono ?_;rintro e w4 ⟨rfl,h4⟩;have d0:=zbx h4 0 (x:=.int .i64 0) rfl;have d1:=zbx h4 1 (x:=.int .i64 0) rfl;have d2:=zbx h4 2 (x:=.int .i64 0) rfl;have d3:=zbx h4 3 (x:=.int .i64 255) rfl;have d4:=zbx h4 4 (x:=.int .i64 0) rfl;have d5:=zbx h4 5 (x:=.int .i64 9217) rfl;have d6:=zbx h4 6 (x:=.bool true) rfl;have d7:=zbx h4 7 (x:=.int .i64 0) rfl;have l4:=zmb h4;have S4:=hide (zjb h4 ((Below.refl _ w4).alloc (Nat.le_refl _) (.cells #[.int .i64 0,.int .i64 0,.int .i64 0,.int .i64 255,.int .i64 0,.int .i64 9218,.bool false,.int .i64 0] 58)));have HE4:=hide (heap_alloc_new w4 (.cells #[.int .i64 0,.int .i64 0,.int .i64 0,.int .i64 255,.int .i64 0,.int .i64 9218,.bool false,.int .i64 0] 58));clear h4 S3 GL)
    |(go_at_call_of 15 (Value.agg #[.int .i64 0,.int .i64 0,.int .i64 0,.int .i64 255,.int .i64 0,.int .i64 9217,.bool true,.int .i64 0]);refine (zdx 0 0 0 255 0 9217 true 0 cy HCY.out _).mono ?_;rintro e w5 ⟨rfl,b5⟩;rw [if_pos rfl];have t0:=zaL b5 HE4.out 0;have t1:=zaL b5 HE4.out 1;have t2:=zaL b5 HE4.out 2;have t3:=zaL b5 HE4.out 3;have t4:=zaL b5 HE4.out 4;have t5:=zaL b5 HE4.out 5;have t6:=zaL b5 HE4.out 6;have t7:=zaL b5 HE4.out 7;have B5:=hide (zar (zgx S4.out) b5);clear b5 d0 d1 d2 d3 d4 d5 d6 d7 l4 S4 HE4)
    |(go_at_call 15;refine (zdx 0 0 0 255 0 9218 false 0 cy HCY.out _).mono ?_;rintro e w6 ⟨rfl,b6⟩;rw [if_neg (by decide)];have B6:=hide (zar B5.out b6);have q0:=(B6.out.cell (p:=⟨bb,off,none⟩) HB.out).trans HC0.out;clear b6 B5 t0 t1 t2 t3 t4 t5 t6 t7))
   all_goals first|(go_ret;exact ⟨rfl,B6.out⟩)|trace_state
  by_cases h2:n=84
  ·subst h2;go_enter Tryz.func11,Tryz.ntmps11;go_wp2_with fail;obtain ⟨wa,hwa⟩:∃wa,W.alloc (.cells (([212,84]:List Int).map (Value.int .u8)).toArray 5)=wa:=⟨_,rfl⟩
   have hwb:=hwa;simp only [List.map_cons,List.map_nil] at hwb;rw [hwb];clear hwb;have B0:=hide (show Below W.heap.size W wa by rw [←hwa];exact (Below.refl _ W).alloc (Nat.le_refl _) _);have SL:=hide (show SlB wa (some ⟨W.heap.size,0,none⟩) 2 (fun i=>[212,84].getD i 0) from zja (l:=[212,84]) (by rw [←hwa];exact heap_alloc_new _ _) (show 2≤9223372036854775807 by decide) (fun y hy=>by simp only [List.mem_cons,List.not_mem_nil,or_false] at hy;omega));clear hwa;refine (zki ⟨HL.out.1.next B0.out,HL.out.2.1.next B0.out,HL.out.2.2.next B0.out⟩ SL.out (zeZ wa fun _=>0) (by decide) (by decide)).mono ?_;rintro e w1 ⟨b,v,c,d,bs,rfl,hc,⟨lb,lv⟩,b1⟩;have H1:=hide hc;have B1:=hide (zar B0.out b1);have LB:=hide (show W.heap.size≤b∧W.heap.size≤v by have:=B0.out.size;omega);clear hc lb lv b1 SL B0;obtain ⟨M0,hM⟩:∃M,M=putM (fun i=>[212,84].getD i 0) (fun _=>0) 2 0:=⟨_,rfl⟩
   rw [←hM] at H1;have GH:=hide (sp_h (bs:=bs) (M:=M0) (by rw [hM];rfl));have GL:=hide (sp_l (bs:=bs) (M:=M0) (by rw [hM];rfl));clear hM;have S0:=hide (ztt (zgw H1.out B1.out LB.out #[.int .i64 0,.int .i64 0,.int .i64 0,.int .i64 0,.int .i64 0,.int .i64 0,.bool false,.int .i64 0]));clear H1 B1 LB
   go_wp2_with (first
    |(refine zgy rfl (.tmp 6) (.tmp 21) rfl S0.out rfl rfl _ rfl rfl (by kernel_rfl) ?_;intro x0 h2;have S2:=hide h2;clear h2 S0)
    |(refine zjd rfl (.tmp 6) rfl ?_;refine zjc rfl (.tmp 6) rfl S2.out rfl rfl ?_)
    |(go_at_call 13;refine (zet S2.out GH.out).mono ?_;rintro e w3 ⟨rfl,h3⟩;have S3:=hide h3;clear h3 S2 GH)
    |(go_at_call 13;refine (zet (zgz S3.out _) GL.out).mono ?_;rintro e w4 ⟨rfl,h4⟩;have d0:=zbx h4 0 (x:=.int .i64 0) rfl;have d1:=zbx h4 1 (x:=.int .i64 0) rfl;have d2:=zbx h4 2 (x:=.int .i64 0) rfl;have d3:=zbx h4 3 (x:=.int .i64 255) rfl;have d4:=zbx h4 4 (x:=.int .i64 0) rfl;have d5:=zbx h4 5 (x:=.int .i64 9217) rfl;have d6:=zbx h4 6 (x:=.bool true) rfl;have d7:=zbx h4 7 (x:=.int .i64 0) rfl;have l4:=zmb h4;have S4:=hide (zjb h4 ((Below.refl _ w4).alloc (Nat.le_refl _) (.cells #[.int .i64 0,.int .i64 0,.int .i64 0,.int .i64 255,.int .i64 0,.int .i64 9218,.bool false,.int .i64 0] 58)));have HE4:=hide (heap_alloc_new w4 (.cells #[.int .i64 0,.int .i64 0,.int .i64 0,.int .i64 255,.int .i64 0,.int .i64 9218,.bool false,.int .i64 0] 58));clear h4 S3 GL)
    |(go_at_call_of 15 (Value.agg #[.int .i64 0,.int .i64 0,.int .i64 0,.int .i64 255,.int .i64 0,.int .i64 9217,.bool true,.int .i64 0]);refine (zdx 0 0 0 255 0 9217 true 0 cy HCY.out _).mono ?_;rintro e w5 ⟨rfl,b5⟩;rw [if_pos rfl];have t0:=zaL b5 HE4.out 0;have t1:=zaL b5 HE4.out 1;have t2:=zaL b5 HE4.out 2;have t3:=zaL b5 HE4.out 3;have t4:=zaL b5 HE4.out 4;have t5:=zaL b5 HE4.out 5;have t6:=zaL b5 HE4.out 6;have t7:=zaL b5 HE4.out 7;have B5:=hide (zar (zgx S4.out) b5);clear b5 d0 d1 d2 d3 d4 d5 d6 d7 l4 S4 HE4)
    |(go_at_call 15;refine (zdx 0 0 0 255 0 9218 false 0 cy HCY.out _).mono ?_;rintro e w6 ⟨rfl,b6⟩;rw [if_neg (by decide)];have B6:=hide (zar B5.out b6);have q0:=(B6.out.cell (p:=⟨bb,off,none⟩) HB.out).trans HC0.out;clear b6 B5 t0 t1 t2 t3 t4 t5 t6 t7))
   all_goals first|(go_ret;exact ⟨rfl,B6.out⟩)|trace_state
  have g1:((n:Int)==212)=false:=by simp only [beq_eq_false_iff_ne];omega
  have g2:((n:Int)==84)=false:=by simp only [beq_eq_false_iff_ne];omega
  have N1:=hide h1;have N2:=hide h2;have HN:=hide hn;clear h1 h2 hn;go_enter Tryz.func11,Tryz.ntmps11;go_wp2_with fail;obtain ⟨wa,hwa⟩:∃wa,W.alloc (.cells (([212,84]:List Int).map (Value.int .u8)).toArray 5)=wa:=⟨_,rfl⟩
  have hwb:=hwa;simp only [List.map_cons,List.map_nil] at hwb;rw [hwb];clear hwb;have B0:=hide (show Below W.heap.size W wa by rw [←hwa];exact (Below.refl _ W).alloc (Nat.le_refl _) _);have SL:=hide (show SlB wa (some ⟨W.heap.size,0,none⟩) 2 (fun i=>[212,84].getD i 0) from zja (l:=[212,84]) (by rw [←hwa];exact heap_alloc_new _ _) (show 2≤9223372036854775807 by decide) (fun y hy=>by simp only [List.mem_cons,List.not_mem_nil,or_false] at hy;omega));clear hwa;refine (zki ⟨HL.out.1.next B0.out,HL.out.2.1.next B0.out,HL.out.2.2.next B0.out⟩ SL.out (zeZ wa fun _=>0) (by decide) (by decide)).mono ?_;rintro e w1 ⟨b,v,c,d,bs,rfl,hc,⟨lb,lv⟩,b1⟩;have H1:=hide hc;have B1:=hide (zar B0.out b1);have LB:=hide (show W.heap.size≤b∧W.heap.size≤v by have:=B0.out.size;omega);clear hc lb lv b1 SL B0;obtain ⟨M0,hM⟩:∃M,M=putM (fun i=>[212,84].getD i 0) (fun _=>0) 2 0:=⟨_,rfl⟩
  rw [←hM] at H1;have GH:=hide (sp_h (bs:=bs) (M:=M0) (by rw [hM];rfl));have GL:=hide (sp_l (bs:=bs) (M:=M0) (by rw [hM];rfl));clear hM;have S0:=hide (ztt (zgw H1.out B1.out LB.out #[.int .i64 0,.int .i64 0,.int .i64 0,.int .i64 0,.int .i64 0,.int .i64 0,.bool false,.int .i64 0]));clear H1 B1 LB
  go_wp2_with (first
   |(refine zgy rfl (.tmp 6) (.tmp 21) rfl S0.out rfl rfl _ rfl rfl (by kernel_rfl) ?_;intro x0 h2;have S2:=hide h2;clear h2 S0)
   |(refine zjd rfl (.tmp 6) rfl ?_;refine zjc rfl (.tmp 6) rfl S2.out rfl rfl ?_)
   |(go_at_call 13;refine (zet S2.out GH.out).mono ?_;rintro e w3 ⟨rfl,h3⟩;have S3:=hide h3;clear h3 S2 GH)
   |(go_at_call 13;refine (zet (zgz S3.out _) GL.out).mono ?_;rintro e w4 ⟨rfl,h4⟩;have d0:=zbx h4 0 (x:=.int .i64 0) rfl;have d1:=zbx h4 1 (x:=.int .i64 0) rfl;have d2:=zbx h4 2 (x:=.int .i64 0) rfl;have d3:=zbx h4 3 (x:=.int .i64 255) rfl;have d4:=zbx h4 4 (x:=.int .i64 0) rfl;have d5:=zbx h4 5 (x:=.int .i64 9217) rfl;have d6:=zbx h4 6 (x:=.bool true) rfl;have d7:=zbx h4 7 (x:=.int .i64 0) rfl;have l4:=zmb h4;have S4:=hide (zjb h4 ((Below.refl _ w4).alloc (Nat.le_refl _) (.cells #[.int .i64 0,.int .i64 0,.int .i64 0,.int .i64 255,.int .i64 0,.int .i64 9218,.bool false,.int .i64 0] 58)));have HE4:=hide (heap_alloc_new w4 (.cells #[.int .i64 0,.int .i64 0,.int .i64 0,.int .i64 255,.int .i64 0,.int .i64 9218,.bool false,.int .i64 0] 58));clear h4 S3 GL)
   |(go_at_call_of 15 (Value.agg #[.int .i64 0,.int .i64 0,.int .i64 0,.int .i64 255,.int .i64 0,.int .i64 9217,.bool true,.int .i64 0]);refine (zdx 0 0 0 255 0 9217 true 0 cy HCY.out _).mono ?_;rintro e w5 ⟨rfl,b5⟩;rw [if_pos rfl];have t0:=zaL b5 HE4.out 0;have t1:=zaL b5 HE4.out 1;have t2:=zaL b5 HE4.out 2;have t3:=zaL b5 HE4.out 3;have t4:=zaL b5 HE4.out 4;have t5:=zaL b5 HE4.out 5;have t6:=zaL b5 HE4.out 6;have t7:=zaL b5 HE4.out 7;have B5:=hide (zar (zgx S4.out) b5);clear b5 d0 d1 d2 d3 d4 d5 d6 d7 l4 S4 HE4)
   |(go_at_call 15;refine (zdx 0 0 0 255 0 9218 false 0 cy HCY.out _).mono ?_;rintro e w6 ⟨rfl,b6⟩;rw [if_neg (by decide)];have B6:=hide (zar B5.out b6);have q0:=(B6.out.cell (p:=⟨bb,off,none⟩) HB.out).trans HC0.out;clear b6 B5 t0 t1 t2 t3 t4 t5 t6 t7))
  clear g1 g2 hp0 hpb q0
  refine (ztA ⟨HL.out.1.next B6.out,HL.out.2.1.next B6.out,HL.out.2.2.next B6.out⟩ (show SlB w6 (some ⟨bb,off,none⟩) len0 (fun i=>z0.getD i 0) from ⟨SC.out.1,fun i hi=>by
   obtain ⟨q,o,e1,e2,e3,e4⟩:=SC.out.2 i hi
   exact ⟨q,o,e1,(B6.out.cell (p:=⟨q,o+i,none⟩) e3).trans e2,Nat.lt_of_lt_of_le e3 B6.out.size,e4⟩⟩) h0).mono ?_
  rintro e w7 ⟨b2,v2,c2,d2,bs2,M2,rfl,hc,hM,⟨lb,lv⟩,b7⟩;have H7:=hide hc;have B7:=hide (zar B6.out b7);have M7:=hide (show M2 1024=(n:Int) from hM.trans EN.out);have LB:=hide (show ∀k,EX b2 v2 k→W.heap.size≤k from fun k e=>by have:=B6.out.size;rcases e with rfl|rfl;omega;omega);clear hc hM lb lv b7 SC EN HB HC0 HL B6;obtain ⟨fb,hfb⟩:∃fb:Bool,(bits .and .i64 cy 1==1)=fb:=⟨_,rfl⟩
  have b8:Below w7.heap.size w7 (w7.alloc (.cells #[.int .i64 0,.int .i64 0,.int .i64 0,.int .i64 255,.int .i64 0,.int .i64 9216,.bool fb,.int .i64 0] 58)):=(Below.refl _ w7).alloc (Nat.le_refl _) _;obtain ⟨a',x',y',s',p',q',l',cy',hK⟩:=zqQ (H7.out.next b8) M7.out HN.out N1.out N2.out fb;have KS:=hide hK;have LL:=hide (show b2<w7.heap.size∧v2<w7.heap.size by obtain ⟨_,_,_,_,m⟩:=H7.out;exact ⟨m.lts.1,m.lts.2.1⟩);have B8:=hide (zar B7.out b8);have G8:=hide (heap_alloc_new w7 (.cells #[.int .i64 0,.int .i64 0,.int .i64 0,.int .i64 255,.int .i64 0,.int .i64 9216,.bool fb,.int .i64 0] 58));clear hK b8 H7 M7 B7
  go_wp2_with (first
   |(go_at_call 13;refine KS.out.mono ?_;rintro e w9 ⟨rfl,o9⟩;have g9:=o9.obj G8.out (fun e=>by have:=LL.out;rcases e with e|e<;>omega);have f9:w9.cell? ⟨w7.heap.size,6,none⟩=some (.bool fb):=(cell_of_row w9 _ 6 _ _ _ g9).trans rfl;have l9:=lt_of_block g9;have B9:=hide (B8.out.trans (o9.below LB.out B8.out.size));clear g9 o9 KS G8 B8))
  all_goals first|(go_ret;exact ⟨rfl,B9.out.alloc B9.out.size _⟩)|(cases fb<;>(go_ret;exact ⟨rfl,B9.out.alloc B9.out.size _⟩))|trace_state
open B4 C3 G6 I11 J23 K9 L24 L25 M5 N8 P22 R15 T10 V12 W13
open Go.ChangeShapes Go.WideShapes Go.RowKit
abbrev zcO:List (String×DataW Unit):=[("phosphor/block.names",Rows.laid_phosphor_block_names),("phosphor/block.paths",Rows.laid_phosphor_block_paths),("phosphor/region.portPlaces",Rows.laid_phosphor_region_portPlaces),("phosphor/regs.mayHave",Rows.laid_phosphor_regs_mayHave),("phosphor/card.classes",Rows.laid_phosphor_card_classes),("phosphor/irq.vectors",Rows.laid_phosphor_irq_vectors),("phosphor/cpu.videoPorts",Rows.laid_phosphor_cpu_videoPorts)]
abbrev zhr:List (String×DataW Unit):=[("phosphor/block.names",Rows.laid_phosphor_block_names),("phosphor/block.paths",Rows.laid_phosphor_block_paths),("phosphor/region.portPlaces",Rows.laid_phosphor_region_portPlaces),("phosphor/regs.mayHave",Rows.laid_phosphor_regs_mayHave),("errors.errorType",Rows.laid_errors_errorType),("phosphor/card.classes",Rows.laid_phosphor_card_classes),("phosphor/irq.vectors",Rows.laid_phosphor_irq_vectors),("phosphor/cpu.videoPorts",Rows.laid_phosphor_cpu_videoPorts)]
theorem Tryz.gNames:Tryz.prog.globalNamed "phosphor/block.names"=some 2:=by kernel_rfl
theorem Tryz.tNames:(Tryz.prog.globals[2]?).map (·.type)=some 201:=by kernel_rfl
theorem names_flat:flat Tryz.prog 40 201 Rows.laid_phosphor_block_names=some zfu.toList:=by kernel_rfl
theorem Tryz.gPaths:Tryz.prog.globalNamed "phosphor/block.paths"=some 3:=by kernel_rfl
theorem Tryz.tPaths:(Tryz.prog.globals[3]?).map (·.type)=some 202:=by kernel_rfl
theorem paths_flat:flat Tryz.prog 40 202 Rows.laid_phosphor_block_paths=some zdo.toList:=by kernel_rfl
theorem Tryz.gReg:Tryz.prog.globalNamed "phosphor/region.portPlaces"=some 5:=by kernel_rfl
theorem Tryz.tReg:(Tryz.prog.globals[5]?).map (·.type)=some 34:=by kernel_rfl
theorem ztB:flat Tryz.prog 40 34 Rows.laid_phosphor_region_portPlaces=some zeg.toList:=by kernel_rfl
theorem Tryz.gMask:Tryz.prog.globalNamed "phosphor/regs.mayHave"=some 7:=by kernel_rfl
theorem Tryz.tMask:(Tryz.prog.globals[7]?).map (·.type)=some 25:=by kernel_rfl
theorem zqR:flat Tryz.prog 40 25 Rows.laid_phosphor_regs_mayHave=some zeh.toList:=by kernel_rfl
theorem Tryz.gTab:Tryz.prog.globalNamed "phosphor/card.classes"=some 6:=by kernel_rfl
theorem Tryz.tTab:(Tryz.prog.globals[6]?).map (·.type)=some 235:=by kernel_rfl
theorem ztC:flat Tryz.prog 40 235 Rows.laid_phosphor_card_classes=some zeA.toList:=by kernel_rfl
theorem Tryz.gVec:Tryz.prog.globalNamed "phosphor/irq.vectors"=some 0:=by kernel_rfl
theorem Tryz.tVec:(Tryz.prog.globals[0]?).map (·.type)=some 102:=by kernel_rfl
theorem ztD:flat Tryz.prog 40 102 Rows.laid_phosphor_irq_vectors=some zeG.toList:=by kernel_rfl
theorem Tryz.gVid:Tryz.prog.globalNamed "phosphor/cpu.videoPorts"=some 1:=by kernel_rfl
theorem Tryz.tVid:(Tryz.prog.globals[1]?).map (·.type)=some 120:=by kernel_rfl
theorem ztE:flat Tryz.prog 40 120 Rows.laid_phosphor_cpu_videoPorts=some zft.toList:=by kernel_rfl
theorem Tryz.gErr:Tryz.prog.globalNamed "errors.errorType"=some 4:=by kernel_rfl
theorem Tryz.rt:(Tryz.prog.cutTypes.find? (·.1== "internal/reflectlite.rtype")).map (·.2)=some 250:=by kernel_rfl
theorem Tryz.oneRow:((List.range 297).filter fun t=>Tryz.prog.rowNamed t [101,114,114,111,114])=[174]:=by kernel_rfl
theorem Tryz.size:Tryz.prog.types.size=297:=by kernel_rfl
theorem znF {W:World} (h:laidMet Tryz.prog zcO W):∃t fr,W.heap[2]? = some (.cells zfu t fr):=by
 obtain ⟨ps,⟨g,t,cs,fuel,p,q,e1,e2,e3,e4,x,_⟩,_⟩:=h;clear x;obtain rfl:=Option.some.inj (Tryz.gNames.symm.trans e1);obtain rfl:=Option.some.inj (Tryz.tNames.symm.trans e2);have hc:=zee 40 fuel 201 _ _ _ _ names_flat e4;have hc2:cs=zfu:=Array.toList_inj.1 hc;subst hc2;simp only [World.var?,Tryz.gNames,Option.bind_some] at e3;split at e3
 ·rename_i cs' t' fr hh;obtain rfl:=Option.some.inj e3;exact ⟨t',fr,hh⟩
 ·cases e3
theorem laid_paths {W:World} (h:laidMet Tryz.prog zcO W):∃t fr,W.heap[3]? = some (.cells zdo t fr):=by
 obtain ⟨ps,⟨g,t,cs,fuel,p,q,e1,e2,e3,e4,x,_⟩,_⟩:=h;obtain ⟨g,t,cs,fuel,p,q,e1,e2,e3,e4,x,_⟩:=x;clear x;obtain rfl:=Option.some.inj (Tryz.gPaths.symm.trans e1);obtain rfl:=Option.some.inj (Tryz.tPaths.symm.trans e2);have hc:=zee 40 fuel 202 _ _ _ _ paths_flat e4;have hc2:cs=zdo:=Array.toList_inj.1 hc;subst hc2;simp only [World.var?,Tryz.gPaths,Option.bind_some] at e3;split at e3
 ·rename_i cs' t' fr hh;obtain rfl:=Option.some.inj e3;exact ⟨t',fr,hh⟩
 ·cases e3
theorem ztF {W:World} (h:laidMet Tryz.prog zcO W):∃t fr,W.heap[5]? = some (.cells zeg t fr):=by
 obtain ⟨ps,⟨g,t,cs,fuel,p,q,e1,e2,e3,e4,x,_⟩,_⟩:=h;obtain ⟨g,t,cs,fuel,p,q,e1,e2,e3,e4,x,_⟩:=x;obtain ⟨g,t,cs,fuel,p,q,e1,e2,e3,e4,x,_⟩:=x;clear x;obtain rfl:=Option.some.inj (Tryz.gReg.symm.trans e1);obtain rfl:=Option.some.inj (Tryz.tReg.symm.trans e2);have hc:=zee 40 fuel 34 _ _ _ _ ztB e4;have hc2:cs=zeg:=Array.toList_inj.1 hc;subst hc2;simp only [World.var?,Tryz.gReg,Option.bind_some] at e3;split at e3
 ·rename_i cs' t' fr hh;obtain rfl:=Option.some.inj e3;exact ⟨t',fr,hh⟩
 ·cases e3
theorem zqS {W:World} (h:laidMet Tryz.prog zcO W):∃t fr,W.heap[7]? = some (.cells zeh t fr):=by
 obtain ⟨ps,⟨g,t,cs,fuel,p,q,e1,e2,e3,e4,x,_⟩,_⟩:=h;obtain ⟨g,t,cs,fuel,p,q,e1,e2,e3,e4,x,_⟩:=x;obtain ⟨g,t,cs,fuel,p,q,e1,e2,e3,e4,x,_⟩:=x;obtain ⟨g,t,cs,fuel,p,q,e1,e2,e3,e4,x,_⟩:=x;clear x;obtain rfl:=Option.some.inj (Tryz.gMask.symm.trans e1);obtain rfl:=Option.some.inj (Tryz.tMask.symm.trans e2);have hc:=zee 40 fuel 25 _ _ _ _ zqR e4;have hc2:cs=zeh:=Array.toList_inj.1 hc;subst hc2;simp only [World.var?,Tryz.gMask,Option.bind_some] at e3;split at e3
 ·rename_i cs' t' fr hh;obtain rfl:=Option.some.inj e3;exact ⟨t',fr,hh⟩
 ·cases e3
theorem ztG {W:World} (h:laidMet Tryz.prog zcO W):∃t fr,W.heap[6]? = some (.cells zeA t fr):=by
 obtain ⟨ps,⟨g,t,cs,fuel,p,q,e1,e2,e3,e4,x,_⟩,_⟩:=h;obtain ⟨g,t,cs,fuel,p,q,e1,e2,e3,e4,x,_⟩:=x;obtain ⟨g,t,cs,fuel,p,q,e1,e2,e3,e4,x,_⟩:=x;obtain ⟨g,t,cs,fuel,p,q,e1,e2,e3,e4,x,_⟩:=x;obtain ⟨g,t,cs,fuel,p,q,e1,e2,e3,e4,x,_⟩:=x;clear x;obtain rfl:=Option.some.inj (Tryz.gTab.symm.trans e1);obtain rfl:=Option.some.inj (Tryz.tTab.symm.trans e2);have hc:=zee 40 fuel 235 _ _ _ _ ztC e4;have hc2:cs=zeA:=Array.toList_inj.1 hc;subst hc2;simp only [World.var?,Tryz.gTab,Option.bind_some] at e3;split at e3
 ·rename_i cs' t' fr hh;obtain rfl:=Option.some.inj e3;exact ⟨t',fr,hh⟩
 ·cases e3
theorem ztH {W:World} (h:laidMet Tryz.prog zcO W):∃t fr,W.heap[0]? = some (.cells zeG t fr):=by
 obtain ⟨ps,⟨g,t,cs,fuel,p,q,e1,e2,e3,e4,x,_⟩,_⟩:=h;obtain ⟨g,t,cs,fuel,p,q,e1,e2,e3,e4,x,_⟩:=x;obtain ⟨g,t,cs,fuel,p,q,e1,e2,e3,e4,x,_⟩:=x;obtain ⟨g,t,cs,fuel,p,q,e1,e2,e3,e4,x,_⟩:=x;obtain ⟨g,t,cs,fuel,p,q,e1,e2,e3,e4,x,_⟩:=x;obtain ⟨g,t,cs,fuel,p,q,e1,e2,e3,e4,x,_⟩:=x;clear x;obtain rfl:=Option.some.inj (Tryz.gVec.symm.trans e1);obtain rfl:=Option.some.inj (Tryz.tVec.symm.trans e2);have hc:=zee 40 fuel 102 _ _ _ _ ztD e4;have hc2:cs=zeG:=Array.toList_inj.1 hc;subst hc2;simp only [World.var?,Tryz.gVec,Option.bind_some] at e3;split at e3
 ·rename_i cs' t' fr hh;obtain rfl:=Option.some.inj e3;exact ⟨t',fr,hh⟩
 ·cases e3
theorem ztI {W:World} (h:laidMet Tryz.prog zcO W):∃t fr,W.heap[1]? = some (.cells zft t fr):=by
 obtain ⟨ps,⟨g,t,cs,fuel,p,q,e1,e2,e3,e4,x,_⟩,_⟩:=h;obtain ⟨g,t,cs,fuel,p,q,e1,e2,e3,e4,x,_⟩:=x;obtain ⟨g,t,cs,fuel,p,q,e1,e2,e3,e4,x,_⟩:=x;obtain ⟨g,t,cs,fuel,p,q,e1,e2,e3,e4,x,_⟩:=x;obtain ⟨g,t,cs,fuel,p,q,e1,e2,e3,e4,x,_⟩:=x;obtain ⟨g,t,cs,fuel,p,q,e1,e2,e3,e4,x,_⟩:=x;obtain ⟨g,t,cs,fuel,p,q,e1,e2,e3,e4,x,_⟩:=x;clear x;obtain rfl:=Option.some.inj (Tryz.gVid.symm.trans e1);obtain rfl:=Option.some.inj (Tryz.tVid.symm.trans e2);have hc:=zee 40 fuel 120 _ _ _ _ ztE e4;have hc2:cs=zft:=Array.toList_inj.1 hc;subst hc2;simp only [World.var?,Tryz.gVid,Option.bind_some] at e3;split at e3
 ·rename_i cs' t' fr hh;obtain rfl:=Option.some.inj e3;exact ⟨t',fr,hh⟩
 ·cases e3
theorem ztJ {W:World} (h:laidMetH Tryz.prog zhr W):Tabs W∧HasErr W∧CT W:=by
 have h':laidMet Tryz.prog zcO W∧handlesMet Tryz.prog [("errors.errorType",Rows.laid_errors_errorType)] W:=h;have q:=h'.1;refine ⟨⟨ztG q,ztF q,zqS q⟩,?_,⟨ztH q,laid_paths q,znF q,ztI q⟩⟩;obtain ⟨name,u,ty,e1,e2,e3,e4,e5⟩:=h'.2 _ (List.mem_singleton.2 rfl);have en:name=[101,114,114,111,114]:=(Option.some.inj e1).symm;subst en;obtain rfl:=Option.some.inj (Tryz.rt.symm.trans e2);have hm:ty ∈ (List.range 297).filter fun t=>Tryz.prog.rowNamed t [101,114,114,111,114]:=List.mem_filter.2 ⟨List.mem_range.2 (by rw [←Tryz.size];exact e3),e4⟩
 rw [Tryz.oneRow] at hm;obtain rfl:=List.mem_singleton.1 hm;have hh:typeHandle Tryz.prog 174=.pointer (some ⟨8,174,none⟩):=by kernel_rfl
 rw [hh] at e5;unfold HasErr
 simpa using World.var?_cell Tryz.gErr e5 0
noncomputable def laidWorld (os:Os):World:=
 let w0:=World.holding Tryz.prog os ⟨#[],#[],[]⟩
 { w0 with heap:=(((((((w0.heap.modify 4 fun
  |.cells _ t frozen=>.cells #[.iface 250 (.agg #[.pointer (some ⟨8,174,none⟩)])] t frozen
  |o=>o).modify 2 fun
  |.cells _ t frozen=>.cells zfu t frozen
  |o=>o).modify 3 fun
  |.cells _ t frozen=>.cells zdo t frozen
  |o=>o).modify 5 fun
  |.cells _ t frozen=>.cells zeg t frozen
  |o=>o).modify 7 fun
  |.cells _ t frozen=>.cells zeh t frozen
  |o=>o).modify 6 fun
  |.cells _ t frozen=>.cells zeA t frozen
  |o=>o).modify 0 fun
  |.cells _ t frozen=>.cells zeG t frozen
  |o=>o).modify 1 fun
  |.cells _ t frozen=>.cells zft t frozen
  |o=>o }
theorem zje (os:Os) (args:Array Value):laidMetH Tryz.prog zhr ((laidWorld os).forCall (fun _ _=>0) ⟨#[],args,[]⟩).memory:=
 laidMetH_of_parts (laidMet_of_run' 8 (by kernel_rfl) (by kernel_rfl)) (by kernel_rfl)
end Go.Proofs.YtoijhhbiknhlnaaGreatDoor
