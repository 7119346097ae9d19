/- Where a byte of a transfer goes: one contract a kind. -/
import Derived.Test.YtoijhhbiknhlnaaGreatDoorCpuSpeedsJ26
namespace Go.Proofs.YtoijhhbiknhlnaaGreatDoor.K9
set_option maxRecDepth 20000
open Go.RowKit
set_option linter.unusedVariables false
theorem under_name {P:Program} {c:Code} {Q:Exit→Act→World→Prop} {a:Act} {w:World} (h:∀wa,wa=w→Code.wp P c Q a wa):Code.wp P c Q a w:=h w rfl
theorem cell_at {w:World} {b:Nat} {cs:Array Value} {t:TypeId} {fr:Nat×Nat} (h:w.heap[b]? = some (.cells cs t fr)) (j:Nat):w.cell? ⟨b,j,none⟩=cs[j]? :=by
 simp [World.cell?,h]
theorem four_named {w wa:World} {o0 o1 o2 o3:Obj} (h:wa=((((w.alloc o0).alloc o1).alloc o2).alloc o3).drew):
  (wa.heap[w.heap.size]? = some o0∧wa.heap[w.heap.size+1]? = some o1∧wa.heap[w.heap.size+2]? = some o2∧wa.heap[w.heap.size+3]? = some o3)∧w.heap.size+3<wa.heap.size∧Below w.heap.size w wa:=by
 have e:wa.heap=(((w.heap.push o0).push o1).push o2).push o3:=by rw [h];rfl
 refine ⟨?_,?_,?_⟩
 ·rw [e];simp only [Array.getElem?_push,Array.size_push];refine ⟨?_,?_,?_,?_⟩
  all_goals (repeat (first|rw [if_pos (by omega)]|rw [if_neg (by omega)]|rw [if_pos trivial]))
 ·rw [e];simp
 ·rw [h];exact ((((Below.refl _ w).alloc (Nat.le_refl _) _).alloc (by simp) _).alloc (by simp;omega) _).alloc (by simp;omega) _ |>.drew
theorem zzl (i a b:Int) (w:World) (hP:HasPaths w):Calls Tryz.prog 112 #[.int .i64 0,.int .i64 i,.agg #[.int .i64 a,.int .i64 b]] w fun e w'=>
  e=.returned (.tuple #[.int .i64 (goOf a (i%65536)),.int .i64 (goOf b (i%65536))])∧Below w.heap.size w w':=by
 have hp:=hP.pos;have c0:w.cell? ⟨3,0,none⟩=some (.int .i64 0):=hP.cell 0 (by decide);have c1:w.cell? ⟨3,1,none⟩=some (.int .i64 0):=hP.cell 1 (by decide);have hp1:3<w.heap.size+1:=by omega
 have hp2:3<w.heap.size+1+1:=by omega
 have hp3:3<w.heap.size+1+1+1:=by omega
 clear hP;go_enter Tryz.func112,Tryz.ntmps112;go_wp2_with fail;go_region_held3 (fun w'=>w'.cell? ⟨3,0,none⟩=some (.int .i64 0)∧w'.cell? ⟨3,1,none⟩=some (.int .i64 0)) (set_option maxRecDepth 20000 in simp [c0,c1,hp,hp1,hp2,hp3,World.cell?_alloc_lt])
  (first|(go_at_call 152;refine (zcx _ _).mono ?_;rintro e w' ⟨rfl,rfl⟩))
 ·
  go_wp2_with fail;refine under_name fun wa hwa=>?_
  obtain ⟨⟨b0,b1,b2,b3⟩,hs,B⟩:=four_named hwa;have e0:=zac (v:=.int .i64 a) ((cell_at b0 0).trans rfl) (by omega);have e1:=zac (v:=.int .i64 b) ((cell_at b0 1).trans rfl) (by omega);have p0:=zac (v:=.int .i64 0) ((cell_at b2 0).trans rfl) (by omega);have p1:=zac (v:=.int .i64 0) ((cell_at b2 1).trans rfl) (by omega);have f0:=zac (v:=.int .i64 (i%65536)) ((cell_at b3 0).trans rfl) (by omega);have f1:=zac (v:=.int .i64 (-(i%65536))) ((cell_at b3 1).trans rfl) (by omega);have f2:=zac (v:=.int .i64 0) ((cell_at b3 2).trans rfl) (by omega);have f3:=zac (v:=.int .i64 (i%2)) ((cell_at b3 3).trans rfl) (by omega);have B0:=hide B;clear hwa b0 b1 b2 b3 B;haveI:=zal wa;refine zan (by kernel_rfl) (by kernel_rfl) ?_
  repeat (go_big_quiet_step ((first
   |(go_at_call 153;exact zap (zaN _ _ _ (by omega) (by omega))))))
  refine wpQuiet_nil ?_;rintro _ ⟨wk,rfl⟩;go_wp2;go_ret2;exact ⟨rfl,zar B0.out wk.below⟩
 ·
  go_wp2_with fail;refine under_name fun wa hwa=>?_
  obtain ⟨⟨b0,b1,b2,b3⟩,hs,B⟩:=four_named hwa;have e0:=zac (v:=.int .i64 a) ((cell_at b0 0).trans rfl) (by omega);have e1:=zac (v:=.int .i64 b) ((cell_at b0 1).trans rfl) (by omega);have p0:=zac (v:=.int .i64 0) ((cell_at b3 0).trans rfl) (by omega);have p1:=zac (v:=.int .i64 0) ((cell_at b3 1).trans rfl) (by omega);have f0:=zac (v:=.int .i64 (i%65536)) ((cell_at b2 0).trans rfl) (by omega);have f1:=zac (v:=.int .i64 (-(i%65536))) ((cell_at b2 1).trans rfl) (by omega);have f2:=zac (v:=.int .i64 0) ((cell_at b2 2).trans rfl) (by omega);have f3:=zac (v:=.int .i64 (i%2)) ((cell_at b2 3).trans rfl) (by omega);have B0:=hide B;clear hwa b0 b1 b2 b3 B;haveI:=zal wa;refine zan (by kernel_rfl) (by kernel_rfl) ?_
  repeat (go_big_quiet_step ((first
   |(go_at_call 153;exact zap (zaN _ _ _ (by omega) (by omega))))))
  refine wpQuiet_nil ?_;rintro _ ⟨wk,rfl⟩;go_wp2;go_ret2;exact ⟨rfl,zar B0.out wk.below⟩
 ·
  go_wp2_with fail;refine under_name fun wa hwa=>?_
  obtain ⟨⟨b0,b1,b2,b3⟩,hs,B⟩:=four_named hwa;have e0:=zac (v:=.int .i64 a) ((cell_at b0 0).trans rfl) (by omega);have e1:=zac (v:=.int .i64 b) ((cell_at b0 1).trans rfl) (by omega);have p0:=zac (v:=.int .i64 0) ((cell_at b1 0).trans rfl) (by omega);have p1:=zac (v:=.int .i64 0) ((cell_at b1 1).trans rfl) (by omega);have f0:=zac (v:=.int .i64 (i%65536)) ((cell_at b3 0).trans rfl) (by omega);have f1:=zac (v:=.int .i64 (-(i%65536))) ((cell_at b3 1).trans rfl) (by omega);have f2:=zac (v:=.int .i64 0) ((cell_at b3 2).trans rfl) (by omega);have f3:=zac (v:=.int .i64 (i%2)) ((cell_at b3 3).trans rfl) (by omega);have B0:=hide B;clear hwa b0 b1 b2 b3 B;haveI:=zal wa;refine zan (by kernel_rfl) (by kernel_rfl) ?_
  repeat (go_big_quiet_step ((first
   |(go_at_call 153;exact zap (zaN _ _ _ (by omega) (by omega))))))
  refine wpQuiet_nil ?_;rintro _ ⟨wk,rfl⟩;go_wp2;go_ret2;exact ⟨rfl,zar B0.out wk.below⟩
 ·
  go_wp2_with fail;refine under_name fun wa hwa=>?_
  obtain ⟨⟨b0,b1,b2,b3⟩,hs,B⟩:=four_named hwa;have e0:=zac (v:=.int .i64 a) ((cell_at b0 0).trans rfl) (by omega);have e1:=zac (v:=.int .i64 b) ((cell_at b0 1).trans rfl) (by omega);have p0:=zac (v:=.int .i64 0) ((cell_at b1 0).trans rfl) (by omega);have p1:=zac (v:=.int .i64 0) ((cell_at b1 1).trans rfl) (by omega);have f0:=zac (v:=.int .i64 (i%65536)) ((cell_at b2 0).trans rfl) (by omega);have f1:=zac (v:=.int .i64 (-(i%65536))) ((cell_at b2 1).trans rfl) (by omega);have f2:=zac (v:=.int .i64 0) ((cell_at b2 2).trans rfl) (by omega);have f3:=zac (v:=.int .i64 (i%2)) ((cell_at b2 3).trans rfl) (by omega);have B0:=hide B;clear hwa b0 b1 b2 b3 B;haveI:=zal wa;refine zan (by kernel_rfl) (by kernel_rfl) ?_
  repeat (go_big_quiet_step ((first
   |(go_at_call 153;exact zap (zaN _ _ _ (by omega) (by omega))))))
  refine wpQuiet_nil ?_;rintro _ ⟨wk,rfl⟩;go_wp2;go_ret2;exact ⟨rfl,zar B0.out wk.below⟩
 ·
  go_wp2_with fail;refine under_name fun wa hwa=>?_
  obtain ⟨⟨b0,b1,b2,b3⟩,hs,B⟩:=four_named hwa;have e0:=zac (v:=.int .i64 a) ((cell_at b0 0).trans rfl) (by omega);have e1:=zac (v:=.int .i64 b) ((cell_at b0 1).trans rfl) (by omega);have p0:=zac (v:=.int .i64 0) ((cell_at b3 0).trans rfl) (by omega);have p1:=zac (v:=.int .i64 0) ((cell_at b3 1).trans rfl) (by omega);have f0:=zac (v:=.int .i64 (i%65536)) ((cell_at b1 0).trans rfl) (by omega);have f1:=zac (v:=.int .i64 (-(i%65536))) ((cell_at b1 1).trans rfl) (by omega);have f2:=zac (v:=.int .i64 0) ((cell_at b1 2).trans rfl) (by omega);have f3:=zac (v:=.int .i64 (i%2)) ((cell_at b1 3).trans rfl) (by omega);have B0:=hide B;clear hwa b0 b1 b2 b3 B;haveI:=zal wa;refine zan (by kernel_rfl) (by kernel_rfl) ?_
  repeat (go_big_quiet_step ((first
   |(go_at_call 153;exact zap (zaN _ _ _ (by omega) (by omega))))))
  refine wpQuiet_nil ?_;rintro _ ⟨wk,rfl⟩;go_wp2;go_ret2;exact ⟨rfl,zar B0.out wk.below⟩
 ·
  go_wp2_with fail;refine under_name fun wa hwa=>?_
  obtain ⟨⟨b0,b1,b2,b3⟩,hs,B⟩:=four_named hwa;have e0:=zac (v:=.int .i64 a) ((cell_at b0 0).trans rfl) (by omega);have e1:=zac (v:=.int .i64 b) ((cell_at b0 1).trans rfl) (by omega);have p0:=zac (v:=.int .i64 0) ((cell_at b2 0).trans rfl) (by omega);have p1:=zac (v:=.int .i64 0) ((cell_at b2 1).trans rfl) (by omega);have f0:=zac (v:=.int .i64 (i%65536)) ((cell_at b1 0).trans rfl) (by omega);have f1:=zac (v:=.int .i64 (-(i%65536))) ((cell_at b1 1).trans rfl) (by omega);have f2:=zac (v:=.int .i64 0) ((cell_at b1 2).trans rfl) (by omega);have f3:=zac (v:=.int .i64 (i%2)) ((cell_at b1 3).trans rfl) (by omega);have B0:=hide B;clear hwa b0 b1 b2 b3 B;haveI:=zal wa;refine zan (by kernel_rfl) (by kernel_rfl) ?_
  repeat (go_big_quiet_step ((first
   |(go_at_call 153;exact zap (zaN _ _ _ (by omega) (by omega))))))
  refine wpQuiet_nil ?_;rintro _ ⟨wk,rfl⟩;go_wp2;go_ret2;exact ⟨rfl,zar B0.out wk.below⟩
theorem zzm (i a b:Int) (w:World) (hP:HasPaths w):Calls Tryz.prog 112 #[.int .i64 1,.int .i64 i,.agg #[.int .i64 a,.int .i64 b]] w fun e w'=>
  e=.returned (.tuple #[.int .i64 (goOf a (-(i%65536))),.int .i64 (goOf b (-(i%65536)))])∧Below w.heap.size w w':=by
 have hp:=hP.pos;have c0:w.cell? ⟨3,2,none⟩=some (.int .i64 1):=hP.cell 2 (by decide);have c1:w.cell? ⟨3,3,none⟩=some (.int .i64 1):=hP.cell 3 (by decide);have hp1:3<w.heap.size+1:=by omega
 have hp2:3<w.heap.size+1+1:=by omega
 have hp3:3<w.heap.size+1+1+1:=by omega
 clear hP;go_enter Tryz.func112,Tryz.ntmps112;go_wp2_with fail;go_region_held3 (fun w'=>w'.cell? ⟨3,2,none⟩=some (.int .i64 1)∧w'.cell? ⟨3,3,none⟩=some (.int .i64 1)) (set_option maxRecDepth 20000 in simp [c0,c1,hp,hp1,hp2,hp3,World.cell?_alloc_lt])
  (first|(go_at_call 152;refine (zcx _ _).mono ?_;rintro e w' ⟨rfl,rfl⟩))
 ·
  go_wp2_with fail;refine under_name fun wa hwa=>?_
  obtain ⟨⟨b0,b1,b2,b3⟩,hs,B⟩:=four_named hwa;have e0:=zac (v:=.int .i64 a) ((cell_at b0 0).trans rfl) (by omega);have e1:=zac (v:=.int .i64 b) ((cell_at b0 1).trans rfl) (by omega);have p0:=zac (v:=.int .i64 1) ((cell_at b2 0).trans rfl) (by omega);have p1:=zac (v:=.int .i64 1) ((cell_at b2 1).trans rfl) (by omega);have f0:=zac (v:=.int .i64 (i%65536)) ((cell_at b3 0).trans rfl) (by omega);have f1:=zac (v:=.int .i64 (-(i%65536))) ((cell_at b3 1).trans rfl) (by omega);have f2:=zac (v:=.int .i64 0) ((cell_at b3 2).trans rfl) (by omega);have f3:=zac (v:=.int .i64 (i%2)) ((cell_at b3 3).trans rfl) (by omega);have B0:=hide B;clear hwa b0 b1 b2 b3 B;haveI:=zal wa;refine zan (by kernel_rfl) (by kernel_rfl) ?_
  repeat (go_big_quiet_step ((first
   |(go_at_call 153;exact zap (zaN _ _ _ (by omega) (by omega))))))
  refine wpQuiet_nil ?_;rintro _ ⟨wk,rfl⟩;go_wp2;go_ret2;exact ⟨rfl,zar B0.out wk.below⟩
 ·
  go_wp2_with fail;refine under_name fun wa hwa=>?_
  obtain ⟨⟨b0,b1,b2,b3⟩,hs,B⟩:=four_named hwa;have e0:=zac (v:=.int .i64 a) ((cell_at b0 0).trans rfl) (by omega);have e1:=zac (v:=.int .i64 b) ((cell_at b0 1).trans rfl) (by omega);have p0:=zac (v:=.int .i64 1) ((cell_at b3 0).trans rfl) (by omega);have p1:=zac (v:=.int .i64 1) ((cell_at b3 1).trans rfl) (by omega);have f0:=zac (v:=.int .i64 (i%65536)) ((cell_at b2 0).trans rfl) (by omega);have f1:=zac (v:=.int .i64 (-(i%65536))) ((cell_at b2 1).trans rfl) (by omega);have f2:=zac (v:=.int .i64 0) ((cell_at b2 2).trans rfl) (by omega);have f3:=zac (v:=.int .i64 (i%2)) ((cell_at b2 3).trans rfl) (by omega);have B0:=hide B;clear hwa b0 b1 b2 b3 B;haveI:=zal wa;refine zan (by kernel_rfl) (by kernel_rfl) ?_
  repeat (go_big_quiet_step ((first
   |(go_at_call 153;exact zap (zaN _ _ _ (by omega) (by omega))))))
  refine wpQuiet_nil ?_;rintro _ ⟨wk,rfl⟩;go_wp2;go_ret2;exact ⟨rfl,zar B0.out wk.below⟩
 ·
  go_wp2_with fail;refine under_name fun wa hwa=>?_
  obtain ⟨⟨b0,b1,b2,b3⟩,hs,B⟩:=four_named hwa;have e0:=zac (v:=.int .i64 a) ((cell_at b0 0).trans rfl) (by omega);have e1:=zac (v:=.int .i64 b) ((cell_at b0 1).trans rfl) (by omega);have p0:=zac (v:=.int .i64 1) ((cell_at b1 0).trans rfl) (by omega);have p1:=zac (v:=.int .i64 1) ((cell_at b1 1).trans rfl) (by omega);have f0:=zac (v:=.int .i64 (i%65536)) ((cell_at b3 0).trans rfl) (by omega);have f1:=zac (v:=.int .i64 (-(i%65536))) ((cell_at b3 1).trans rfl) (by omega);have f2:=zac (v:=.int .i64 0) ((cell_at b3 2).trans rfl) (by omega);have f3:=zac (v:=.int .i64 (i%2)) ((cell_at b3 3).trans rfl) (by omega);have B0:=hide B;clear hwa b0 b1 b2 b3 B;haveI:=zal wa;refine zan (by kernel_rfl) (by kernel_rfl) ?_
  repeat (go_big_quiet_step ((first
   |(go_at_call 153;exact zap (zaN _ _ _ (by omega) (by omega))))))
  refine wpQuiet_nil ?_;rintro _ ⟨wk,rfl⟩;go_wp2;go_ret2;exact ⟨rfl,zar B0.out wk.below⟩
 ·
  go_wp2_with fail;refine under_name fun wa hwa=>?_
  obtain ⟨⟨b0,b1,b2,b3⟩,hs,B⟩:=four_named hwa;have e0:=zac (v:=.int .i64 a) ((cell_at b0 0).trans rfl) (by omega);have e1:=zac (v:=.int .i64 b) ((cell_at b0 1).trans rfl) (by omega);have p0:=zac (v:=.int .i64 1) ((cell_at b1 0).trans rfl) (by omega);have p1:=zac (v:=.int .i64 1) ((cell_at b1 1).trans rfl) (by omega);have f0:=zac (v:=.int .i64 (i%65536)) ((cell_at b2 0).trans rfl) (by omega);have f1:=zac (v:=.int .i64 (-(i%65536))) ((cell_at b2 1).trans rfl) (by omega);have f2:=zac (v:=.int .i64 0) ((cell_at b2 2).trans rfl) (by omega);have f3:=zac (v:=.int .i64 (i%2)) ((cell_at b2 3).trans rfl) (by omega);have B0:=hide B;clear hwa b0 b1 b2 b3 B;haveI:=zal wa;refine zan (by kernel_rfl) (by kernel_rfl) ?_
  repeat (go_big_quiet_step ((first
   |(go_at_call 153;exact zap (zaN _ _ _ (by omega) (by omega))))))
  refine wpQuiet_nil ?_;rintro _ ⟨wk,rfl⟩;go_wp2;go_ret2;exact ⟨rfl,zar B0.out wk.below⟩
 ·
  go_wp2_with fail;refine under_name fun wa hwa=>?_
  obtain ⟨⟨b0,b1,b2,b3⟩,hs,B⟩:=four_named hwa;have e0:=zac (v:=.int .i64 a) ((cell_at b0 0).trans rfl) (by omega);have e1:=zac (v:=.int .i64 b) ((cell_at b0 1).trans rfl) (by omega);have p0:=zac (v:=.int .i64 1) ((cell_at b3 0).trans rfl) (by omega);have p1:=zac (v:=.int .i64 1) ((cell_at b3 1).trans rfl) (by omega);have f0:=zac (v:=.int .i64 (i%65536)) ((cell_at b1 0).trans rfl) (by omega);have f1:=zac (v:=.int .i64 (-(i%65536))) ((cell_at b1 1).trans rfl) (by omega);have f2:=zac (v:=.int .i64 0) ((cell_at b1 2).trans rfl) (by omega);have f3:=zac (v:=.int .i64 (i%2)) ((cell_at b1 3).trans rfl) (by omega);have B0:=hide B;clear hwa b0 b1 b2 b3 B;haveI:=zal wa;refine zan (by kernel_rfl) (by kernel_rfl) ?_
  repeat (go_big_quiet_step ((first
   |(go_at_call 153;exact zap (zaN _ _ _ (by omega) (by omega))))))
  refine wpQuiet_nil ?_;rintro _ ⟨wk,rfl⟩;go_wp2;go_ret2;exact ⟨rfl,zar B0.out wk.below⟩
 ·
  go_wp2_with fail;refine under_name fun wa hwa=>?_
  obtain ⟨⟨b0,b1,b2,b3⟩,hs,B⟩:=four_named hwa;have e0:=zac (v:=.int .i64 a) ((cell_at b0 0).trans rfl) (by omega);have e1:=zac (v:=.int .i64 b) ((cell_at b0 1).trans rfl) (by omega);have p0:=zac (v:=.int .i64 1) ((cell_at b2 0).trans rfl) (by omega);have p1:=zac (v:=.int .i64 1) ((cell_at b2 1).trans rfl) (by omega);have f0:=zac (v:=.int .i64 (i%65536)) ((cell_at b1 0).trans rfl) (by omega);have f1:=zac (v:=.int .i64 (-(i%65536))) ((cell_at b1 1).trans rfl) (by omega);have f2:=zac (v:=.int .i64 0) ((cell_at b1 2).trans rfl) (by omega);have f3:=zac (v:=.int .i64 (i%2)) ((cell_at b1 3).trans rfl) (by omega);have B0:=hide B;clear hwa b0 b1 b2 b3 B;haveI:=zal wa;refine zan (by kernel_rfl) (by kernel_rfl) ?_
  repeat (go_big_quiet_step ((first
   |(go_at_call 153;exact zap (zaN _ _ _ (by omega) (by omega))))))
  refine wpQuiet_nil ?_;rintro _ ⟨wk,rfl⟩;go_wp2;go_ret2;exact ⟨rfl,zar B0.out wk.below⟩
theorem zzn (i a b:Int) (w:World) (hP:HasPaths w):Calls Tryz.prog 112 #[.int .i64 2,.int .i64 i,.agg #[.int .i64 a,.int .i64 b]] w fun e w'=>
  e=.returned (.tuple #[.int .i64 (goOf a (i%65536)),.int .i64 (goOf b (0))])∧Below w.heap.size w w':=by
 have hp:=hP.pos;have c0:w.cell? ⟨3,4,none⟩=some (.int .i64 0):=hP.cell 4 (by decide);have c1:w.cell? ⟨3,5,none⟩=some (.int .i64 2):=hP.cell 5 (by decide);have hp1:3<w.heap.size+1:=by omega
 have hp2:3<w.heap.size+1+1:=by omega
 have hp3:3<w.heap.size+1+1+1:=by omega
 clear hP;go_enter Tryz.func112,Tryz.ntmps112;go_wp2_with fail;go_region_held3 (fun w'=>w'.cell? ⟨3,4,none⟩=some (.int .i64 0)∧w'.cell? ⟨3,5,none⟩=some (.int .i64 2)) (set_option maxRecDepth 20000 in simp [c0,c1,hp,hp1,hp2,hp3,World.cell?_alloc_lt])
  (first|(go_at_call 152;refine (zcx _ _).mono ?_;rintro e w' ⟨rfl,rfl⟩))
 ·
  go_wp2_with fail;refine under_name fun wa hwa=>?_
  obtain ⟨⟨b0,b1,b2,b3⟩,hs,B⟩:=four_named hwa;have e0:=zac (v:=.int .i64 a) ((cell_at b0 0).trans rfl) (by omega);have e1:=zac (v:=.int .i64 b) ((cell_at b0 1).trans rfl) (by omega);have p0:=zac (v:=.int .i64 0) ((cell_at b2 0).trans rfl) (by omega);have p1:=zac (v:=.int .i64 2) ((cell_at b2 1).trans rfl) (by omega);have f0:=zac (v:=.int .i64 (i%65536)) ((cell_at b3 0).trans rfl) (by omega);have f1:=zac (v:=.int .i64 (-(i%65536))) ((cell_at b3 1).trans rfl) (by omega);have f2:=zac (v:=.int .i64 0) ((cell_at b3 2).trans rfl) (by omega);have f3:=zac (v:=.int .i64 (i%2)) ((cell_at b3 3).trans rfl) (by omega);have B0:=hide B;clear hwa b0 b1 b2 b3 B;haveI:=zal wa;refine zan (by kernel_rfl) (by kernel_rfl) ?_
  repeat (go_big_quiet_step ((first
   |(go_at_call 153;exact zap (zaN _ _ _ (by omega) (by omega))))))
  refine wpQuiet_nil ?_;rintro _ ⟨wk,rfl⟩;go_wp2;go_ret2;exact ⟨rfl,zar B0.out wk.below⟩
 ·
  go_wp2_with fail;refine under_name fun wa hwa=>?_
  obtain ⟨⟨b0,b1,b2,b3⟩,hs,B⟩:=four_named hwa;have e0:=zac (v:=.int .i64 a) ((cell_at b0 0).trans rfl) (by omega);have e1:=zac (v:=.int .i64 b) ((cell_at b0 1).trans rfl) (by omega);have p0:=zac (v:=.int .i64 0) ((cell_at b3 0).trans rfl) (by omega);have p1:=zac (v:=.int .i64 2) ((cell_at b3 1).trans rfl) (by omega);have f0:=zac (v:=.int .i64 (i%65536)) ((cell_at b2 0).trans rfl) (by omega);have f1:=zac (v:=.int .i64 (-(i%65536))) ((cell_at b2 1).trans rfl) (by omega);have f2:=zac (v:=.int .i64 0) ((cell_at b2 2).trans rfl) (by omega);have f3:=zac (v:=.int .i64 (i%2)) ((cell_at b2 3).trans rfl) (by omega);have B0:=hide B;clear hwa b0 b1 b2 b3 B;haveI:=zal wa;refine zan (by kernel_rfl) (by kernel_rfl) ?_
  repeat (go_big_quiet_step ((first
   |(go_at_call 153;exact zap (zaN _ _ _ (by omega) (by omega))))))
  refine wpQuiet_nil ?_;rintro _ ⟨wk,rfl⟩;go_wp2;go_ret2;exact ⟨rfl,zar B0.out wk.below⟩
 ·
  go_wp2_with fail;refine under_name fun wa hwa=>?_
  obtain ⟨⟨b0,b1,b2,b3⟩,hs,B⟩:=four_named hwa;have e0:=zac (v:=.int .i64 a) ((cell_at b0 0).trans rfl) (by omega);have e1:=zac (v:=.int .i64 b) ((cell_at b0 1).trans rfl) (by omega);have p0:=zac (v:=.int .i64 0) ((cell_at b1 0).trans rfl) (by omega);have p1:=zac (v:=.int .i64 2) ((cell_at b1 1).trans rfl) (by omega);have f0:=zac (v:=.int .i64 (i%65536)) ((cell_at b3 0).trans rfl) (by omega);have f1:=zac (v:=.int .i64 (-(i%65536))) ((cell_at b3 1).trans rfl) (by omega);have f2:=zac (v:=.int .i64 0) ((cell_at b3 2).trans rfl) (by omega);have f3:=zac (v:=.int .i64 (i%2)) ((cell_at b3 3).trans rfl) (by omega);have B0:=hide B;clear hwa b0 b1 b2 b3 B;haveI:=zal wa;refine zan (by kernel_rfl) (by kernel_rfl) ?_
  repeat (go_big_quiet_step ((first
   |(go_at_call 153;exact zap (zaN _ _ _ (by omega) (by omega))))))
  refine wpQuiet_nil ?_;rintro _ ⟨wk,rfl⟩;go_wp2;go_ret2;exact ⟨rfl,zar B0.out wk.below⟩
 ·
  go_wp2_with fail;refine under_name fun wa hwa=>?_
  obtain ⟨⟨b0,b1,b2,b3⟩,hs,B⟩:=four_named hwa;have e0:=zac (v:=.int .i64 a) ((cell_at b0 0).trans rfl) (by omega);have e1:=zac (v:=.int .i64 b) ((cell_at b0 1).trans rfl) (by omega);have p0:=zac (v:=.int .i64 0) ((cell_at b1 0).trans rfl) (by omega);have p1:=zac (v:=.int .i64 2) ((cell_at b1 1).trans rfl) (by omega);have f0:=zac (v:=.int .i64 (i%65536)) ((cell_at b2 0).trans rfl) (by omega);have f1:=zac (v:=.int .i64 (-(i%65536))) ((cell_at b2 1).trans rfl) (by omega);have f2:=zac (v:=.int .i64 0) ((cell_at b2 2).trans rfl) (by omega);have f3:=zac (v:=.int .i64 (i%2)) ((cell_at b2 3).trans rfl) (by omega);have B0:=hide B;clear hwa b0 b1 b2 b3 B;haveI:=zal wa;refine zan (by kernel_rfl) (by kernel_rfl) ?_
  repeat (go_big_quiet_step ((first
   |(go_at_call 153;exact zap (zaN _ _ _ (by omega) (by omega))))))
  refine wpQuiet_nil ?_;rintro _ ⟨wk,rfl⟩;go_wp2;go_ret2;exact ⟨rfl,zar B0.out wk.below⟩
 ·
  go_wp2_with fail;refine under_name fun wa hwa=>?_
  obtain ⟨⟨b0,b1,b2,b3⟩,hs,B⟩:=four_named hwa;have e0:=zac (v:=.int .i64 a) ((cell_at b0 0).trans rfl) (by omega);have e1:=zac (v:=.int .i64 b) ((cell_at b0 1).trans rfl) (by omega);have p0:=zac (v:=.int .i64 0) ((cell_at b3 0).trans rfl) (by omega);have p1:=zac (v:=.int .i64 2) ((cell_at b3 1).trans rfl) (by omega);have f0:=zac (v:=.int .i64 (i%65536)) ((cell_at b1 0).trans rfl) (by omega);have f1:=zac (v:=.int .i64 (-(i%65536))) ((cell_at b1 1).trans rfl) (by omega);have f2:=zac (v:=.int .i64 0) ((cell_at b1 2).trans rfl) (by omega);have f3:=zac (v:=.int .i64 (i%2)) ((cell_at b1 3).trans rfl) (by omega);have B0:=hide B;clear hwa b0 b1 b2 b3 B;haveI:=zal wa;refine zan (by kernel_rfl) (by kernel_rfl) ?_
  repeat (go_big_quiet_step ((first
   |(go_at_call 153;exact zap (zaN _ _ _ (by omega) (by omega))))))
  refine wpQuiet_nil ?_;rintro _ ⟨wk,rfl⟩;go_wp2;go_ret2;exact ⟨rfl,zar B0.out wk.below⟩
 ·
  go_wp2_with fail;refine under_name fun wa hwa=>?_
  obtain ⟨⟨b0,b1,b2,b3⟩,hs,B⟩:=four_named hwa;have e0:=zac (v:=.int .i64 a) ((cell_at b0 0).trans rfl) (by omega);have e1:=zac (v:=.int .i64 b) ((cell_at b0 1).trans rfl) (by omega);have p0:=zac (v:=.int .i64 0) ((cell_at b2 0).trans rfl) (by omega);have p1:=zac (v:=.int .i64 2) ((cell_at b2 1).trans rfl) (by omega);have f0:=zac (v:=.int .i64 (i%65536)) ((cell_at b1 0).trans rfl) (by omega);have f1:=zac (v:=.int .i64 (-(i%65536))) ((cell_at b1 1).trans rfl) (by omega);have f2:=zac (v:=.int .i64 0) ((cell_at b1 2).trans rfl) (by omega);have f3:=zac (v:=.int .i64 (i%2)) ((cell_at b1 3).trans rfl) (by omega);have B0:=hide B;clear hwa b0 b1 b2 b3 B;haveI:=zal wa;refine zan (by kernel_rfl) (by kernel_rfl) ?_
  repeat (go_big_quiet_step ((first
   |(go_at_call 153;exact zap (zaN _ _ _ (by omega) (by omega))))))
  refine wpQuiet_nil ?_;rintro _ ⟨wk,rfl⟩;go_wp2;go_ret2;exact ⟨rfl,zar B0.out wk.below⟩
theorem zzo (i a b:Int) (w:World) (hP:HasPaths w):Calls Tryz.prog 112 #[.int .i64 3,.int .i64 i,.agg #[.int .i64 a,.int .i64 b]] w fun e w'=>
  e=.returned (.tuple #[.int .i64 (goOf a (i%65536)),.int .i64 (goOf b (i%2))])∧Below w.heap.size w w':=by
 have hp:=hP.pos;have c0:w.cell? ⟨3,6,none⟩=some (.int .i64 0):=hP.cell 6 (by decide);have c1:w.cell? ⟨3,7,none⟩=some (.int .i64 3):=hP.cell 7 (by decide);have hp1:3<w.heap.size+1:=by omega
 have hp2:3<w.heap.size+1+1:=by omega
 have hp3:3<w.heap.size+1+1+1:=by omega
 clear hP;go_enter Tryz.func112,Tryz.ntmps112;go_wp2_with fail;go_region_held3 (fun w'=>w'.cell? ⟨3,6,none⟩=some (.int .i64 0)∧w'.cell? ⟨3,7,none⟩=some (.int .i64 3)) (set_option maxRecDepth 20000 in simp [c0,c1,hp,hp1,hp2,hp3,World.cell?_alloc_lt])
  (first|(go_at_call 152;refine (zcx _ _).mono ?_;rintro e w' ⟨rfl,rfl⟩))
 ·
  go_wp2_with fail;refine under_name fun wa hwa=>?_
  obtain ⟨⟨b0,b1,b2,b3⟩,hs,B⟩:=four_named hwa;have e0:=zac (v:=.int .i64 a) ((cell_at b0 0).trans rfl) (by omega);have e1:=zac (v:=.int .i64 b) ((cell_at b0 1).trans rfl) (by omega);have p0:=zac (v:=.int .i64 0) ((cell_at b2 0).trans rfl) (by omega);have p1:=zac (v:=.int .i64 3) ((cell_at b2 1).trans rfl) (by omega);have f0:=zac (v:=.int .i64 (i%65536)) ((cell_at b3 0).trans rfl) (by omega);have f1:=zac (v:=.int .i64 (-(i%65536))) ((cell_at b3 1).trans rfl) (by omega);have f2:=zac (v:=.int .i64 0) ((cell_at b3 2).trans rfl) (by omega);have f3:=zac (v:=.int .i64 (i%2)) ((cell_at b3 3).trans rfl) (by omega);have B0:=hide B;clear hwa b0 b1 b2 b3 B;haveI:=zal wa;refine zan (by kernel_rfl) (by kernel_rfl) ?_
  repeat (go_big_quiet_step ((first
   |(go_at_call 153;exact zap (zaN _ _ _ (by omega) (by omega))))))
  refine wpQuiet_nil ?_;rintro _ ⟨wk,rfl⟩;go_wp2;go_ret2;exact ⟨rfl,zar B0.out wk.below⟩
 ·
  go_wp2_with fail;refine under_name fun wa hwa=>?_
  obtain ⟨⟨b0,b1,b2,b3⟩,hs,B⟩:=four_named hwa;have e0:=zac (v:=.int .i64 a) ((cell_at b0 0).trans rfl) (by omega);have e1:=zac (v:=.int .i64 b) ((cell_at b0 1).trans rfl) (by omega);have p0:=zac (v:=.int .i64 0) ((cell_at b3 0).trans rfl) (by omega);have p1:=zac (v:=.int .i64 3) ((cell_at b3 1).trans rfl) (by omega);have f0:=zac (v:=.int .i64 (i%65536)) ((cell_at b2 0).trans rfl) (by omega);have f1:=zac (v:=.int .i64 (-(i%65536))) ((cell_at b2 1).trans rfl) (by omega);have f2:=zac (v:=.int .i64 0) ((cell_at b2 2).trans rfl) (by omega);have f3:=zac (v:=.int .i64 (i%2)) ((cell_at b2 3).trans rfl) (by omega);have B0:=hide B;clear hwa b0 b1 b2 b3 B;haveI:=zal wa;refine zan (by kernel_rfl) (by kernel_rfl) ?_
  repeat (go_big_quiet_step ((first
   |(go_at_call 153;exact zap (zaN _ _ _ (by omega) (by omega))))))
  refine wpQuiet_nil ?_;rintro _ ⟨wk,rfl⟩;go_wp2;go_ret2;exact ⟨rfl,zar B0.out wk.below⟩
 ·
  go_wp2_with fail;refine under_name fun wa hwa=>?_
  obtain ⟨⟨b0,b1,b2,b3⟩,hs,B⟩:=four_named hwa;have e0:=zac (v:=.int .i64 a) ((cell_at b0 0).trans rfl) (by omega);have e1:=zac (v:=.int .i64 b) ((cell_at b0 1).trans rfl) (by omega);have p0:=zac (v:=.int .i64 0) ((cell_at b1 0).trans rfl) (by omega);have p1:=zac (v:=.int .i64 3) ((cell_at b1 1).trans rfl) (by omega);have f0:=zac (v:=.int .i64 (i%65536)) ((cell_at b3 0).trans rfl) (by omega);have f1:=zac (v:=.int .i64 (-(i%65536))) ((cell_at b3 1).trans rfl) (by omega);have f2:=zac (v:=.int .i64 0) ((cell_at b3 2).trans rfl) (by omega);have f3:=zac (v:=.int .i64 (i%2)) ((cell_at b3 3).trans rfl) (by omega);have B0:=hide B;clear hwa b0 b1 b2 b3 B;haveI:=zal wa;refine zan (by kernel_rfl) (by kernel_rfl) ?_
  repeat (go_big_quiet_step ((first
   |(go_at_call 153;exact zap (zaN _ _ _ (by omega) (by omega))))))
  refine wpQuiet_nil ?_;rintro _ ⟨wk,rfl⟩;go_wp2;go_ret2;exact ⟨rfl,zar B0.out wk.below⟩
 ·
  go_wp2_with fail;refine under_name fun wa hwa=>?_
  obtain ⟨⟨b0,b1,b2,b3⟩,hs,B⟩:=four_named hwa;have e0:=zac (v:=.int .i64 a) ((cell_at b0 0).trans rfl) (by omega);have e1:=zac (v:=.int .i64 b) ((cell_at b0 1).trans rfl) (by omega);have p0:=zac (v:=.int .i64 0) ((cell_at b1 0).trans rfl) (by omega);have p1:=zac (v:=.int .i64 3) ((cell_at b1 1).trans rfl) (by omega);have f0:=zac (v:=.int .i64 (i%65536)) ((cell_at b2 0).trans rfl) (by omega);have f1:=zac (v:=.int .i64 (-(i%65536))) ((cell_at b2 1).trans rfl) (by omega);have f2:=zac (v:=.int .i64 0) ((cell_at b2 2).trans rfl) (by omega);have f3:=zac (v:=.int .i64 (i%2)) ((cell_at b2 3).trans rfl) (by omega);have B0:=hide B;clear hwa b0 b1 b2 b3 B;haveI:=zal wa;refine zan (by kernel_rfl) (by kernel_rfl) ?_
  repeat (go_big_quiet_step ((first
   |(go_at_call 153;exact zap (zaN _ _ _ (by omega) (by omega))))))
  refine wpQuiet_nil ?_;rintro _ ⟨wk,rfl⟩;go_wp2;go_ret2;exact ⟨rfl,zar B0.out wk.below⟩
 ·
  go_wp2_with fail;refine under_name fun wa hwa=>?_
  obtain ⟨⟨b0,b1,b2,b3⟩,hs,B⟩:=four_named hwa;have e0:=zac (v:=.int .i64 a) ((cell_at b0 0).trans rfl) (by omega);have e1:=zac (v:=.int .i64 b) ((cell_at b0 1).trans rfl) (by omega);have p0:=zac (v:=.int .i64 0) ((cell_at b3 0).trans rfl) (by omega);have p1:=zac (v:=.int .i64 3) ((cell_at b3 1).trans rfl) (by omega);have f0:=zac (v:=.int .i64 (i%65536)) ((cell_at b1 0).trans rfl) (by omega);have f1:=zac (v:=.int .i64 (-(i%65536))) ((cell_at b1 1).trans rfl) (by omega);have f2:=zac (v:=.int .i64 0) ((cell_at b1 2).trans rfl) (by omega);have f3:=zac (v:=.int .i64 (i%2)) ((cell_at b1 3).trans rfl) (by omega);have B0:=hide B;clear hwa b0 b1 b2 b3 B;haveI:=zal wa;refine zan (by kernel_rfl) (by kernel_rfl) ?_
  repeat (go_big_quiet_step ((first
   |(go_at_call 153;exact zap (zaN _ _ _ (by omega) (by omega))))))
  refine wpQuiet_nil ?_;rintro _ ⟨wk,rfl⟩;go_wp2;go_ret2;exact ⟨rfl,zar B0.out wk.below⟩
 ·
  go_wp2_with fail;refine under_name fun wa hwa=>?_
  obtain ⟨⟨b0,b1,b2,b3⟩,hs,B⟩:=four_named hwa;have e0:=zac (v:=.int .i64 a) ((cell_at b0 0).trans rfl) (by omega);have e1:=zac (v:=.int .i64 b) ((cell_at b0 1).trans rfl) (by omega);have p0:=zac (v:=.int .i64 0) ((cell_at b2 0).trans rfl) (by omega);have p1:=zac (v:=.int .i64 3) ((cell_at b2 1).trans rfl) (by omega);have f0:=zac (v:=.int .i64 (i%65536)) ((cell_at b1 0).trans rfl) (by omega);have f1:=zac (v:=.int .i64 (-(i%65536))) ((cell_at b1 1).trans rfl) (by omega);have f2:=zac (v:=.int .i64 0) ((cell_at b1 2).trans rfl) (by omega);have f3:=zac (v:=.int .i64 (i%2)) ((cell_at b1 3).trans rfl) (by omega);have B0:=hide B;clear hwa b0 b1 b2 b3 B;haveI:=zal wa;refine zan (by kernel_rfl) (by kernel_rfl) ?_
  repeat (go_big_quiet_step ((first
   |(go_at_call 153;exact zap (zaN _ _ _ (by omega) (by omega))))))
  refine wpQuiet_nil ?_;rintro _ ⟨wk,rfl⟩;go_wp2;go_ret2;exact ⟨rfl,zar B0.out wk.below⟩
theorem zzp (i a b:Int) (w:World) (hP:HasPaths w):Calls Tryz.prog 112 #[.int .i64 4,.int .i64 i,.agg #[.int .i64 a,.int .i64 b]] w fun e w'=>
  e=.returned (.tuple #[.int .i64 (goOf a (i%2)),.int .i64 (goOf b (i%65536))])∧Below w.heap.size w w':=by
 have hp:=hP.pos;have c0:w.cell? ⟨3,8,none⟩=some (.int .i64 3):=hP.cell 8 (by decide);have c1:w.cell? ⟨3,9,none⟩=some (.int .i64 0):=hP.cell 9 (by decide);have hp1:3<w.heap.size+1:=by omega
 have hp2:3<w.heap.size+1+1:=by omega
 have hp3:3<w.heap.size+1+1+1:=by omega
 clear hP;go_enter Tryz.func112,Tryz.ntmps112;go_wp2_with fail;go_region_held3 (fun w'=>w'.cell? ⟨3,8,none⟩=some (.int .i64 3)∧w'.cell? ⟨3,9,none⟩=some (.int .i64 0)) (set_option maxRecDepth 20000 in simp [c0,c1,hp,hp1,hp2,hp3,World.cell?_alloc_lt])
  (first|(go_at_call 152;refine (zcx _ _).mono ?_;rintro e w' ⟨rfl,rfl⟩))
 ·
  go_wp2_with fail;refine under_name fun wa hwa=>?_
  obtain ⟨⟨b0,b1,b2,b3⟩,hs,B⟩:=four_named hwa;have e0:=zac (v:=.int .i64 a) ((cell_at b0 0).trans rfl) (by omega);have e1:=zac (v:=.int .i64 b) ((cell_at b0 1).trans rfl) (by omega);have p0:=zac (v:=.int .i64 3) ((cell_at b2 0).trans rfl) (by omega);have p1:=zac (v:=.int .i64 0) ((cell_at b2 1).trans rfl) (by omega);have f0:=zac (v:=.int .i64 (i%65536)) ((cell_at b3 0).trans rfl) (by omega);have f1:=zac (v:=.int .i64 (-(i%65536))) ((cell_at b3 1).trans rfl) (by omega);have f2:=zac (v:=.int .i64 0) ((cell_at b3 2).trans rfl) (by omega);have f3:=zac (v:=.int .i64 (i%2)) ((cell_at b3 3).trans rfl) (by omega);have B0:=hide B;clear hwa b0 b1 b2 b3 B;haveI:=zal wa;refine zan (by kernel_rfl) (by kernel_rfl) ?_
  repeat (go_big_quiet_step ((first
   |(go_at_call 153;exact zap (zaN _ _ _ (by omega) (by omega))))))
  refine wpQuiet_nil ?_;rintro _ ⟨wk,rfl⟩;go_wp2;go_ret2;exact ⟨rfl,zar B0.out wk.below⟩
 ·
  go_wp2_with fail;refine under_name fun wa hwa=>?_
  obtain ⟨⟨b0,b1,b2,b3⟩,hs,B⟩:=four_named hwa;have e0:=zac (v:=.int .i64 a) ((cell_at b0 0).trans rfl) (by omega);have e1:=zac (v:=.int .i64 b) ((cell_at b0 1).trans rfl) (by omega);have p0:=zac (v:=.int .i64 3) ((cell_at b3 0).trans rfl) (by omega);have p1:=zac (v:=.int .i64 0) ((cell_at b3 1).trans rfl) (by omega);have f0:=zac (v:=.int .i64 (i%65536)) ((cell_at b2 0).trans rfl) (by omega);have f1:=zac (v:=.int .i64 (-(i%65536))) ((cell_at b2 1).trans rfl) (by omega);have f2:=zac (v:=.int .i64 0) ((cell_at b2 2).trans rfl) (by omega);have f3:=zac (v:=.int .i64 (i%2)) ((cell_at b2 3).trans rfl) (by omega);have B0:=hide B;clear hwa b0 b1 b2 b3 B;haveI:=zal wa;refine zan (by kernel_rfl) (by kernel_rfl) ?_
  repeat (go_big_quiet_step ((first
   |(go_at_call 153;exact zap (zaN _ _ _ (by omega) (by omega))))))
  refine wpQuiet_nil ?_;rintro _ ⟨wk,rfl⟩;go_wp2;go_ret2;exact ⟨rfl,zar B0.out wk.below⟩
 ·
  go_wp2_with fail;refine under_name fun wa hwa=>?_
  obtain ⟨⟨b0,b1,b2,b3⟩,hs,B⟩:=four_named hwa;have e0:=zac (v:=.int .i64 a) ((cell_at b0 0).trans rfl) (by omega);have e1:=zac (v:=.int .i64 b) ((cell_at b0 1).trans rfl) (by omega);have p0:=zac (v:=.int .i64 3) ((cell_at b1 0).trans rfl) (by omega);have p1:=zac (v:=.int .i64 0) ((cell_at b1 1).trans rfl) (by omega);have f0:=zac (v:=.int .i64 (i%65536)) ((cell_at b3 0).trans rfl) (by omega);have f1:=zac (v:=.int .i64 (-(i%65536))) ((cell_at b3 1).trans rfl) (by omega);have f2:=zac (v:=.int .i64 0) ((cell_at b3 2).trans rfl) (by omega);have f3:=zac (v:=.int .i64 (i%2)) ((cell_at b3 3).trans rfl) (by omega);have B0:=hide B;clear hwa b0 b1 b2 b3 B;haveI:=zal wa;refine zan (by kernel_rfl) (by kernel_rfl) ?_
  repeat (go_big_quiet_step ((first
   |(go_at_call 153;exact zap (zaN _ _ _ (by omega) (by omega))))))
  refine wpQuiet_nil ?_;rintro _ ⟨wk,rfl⟩;go_wp2;go_ret2;exact ⟨rfl,zar B0.out wk.below⟩
 ·
  go_wp2_with fail;refine under_name fun wa hwa=>?_
  obtain ⟨⟨b0,b1,b2,b3⟩,hs,B⟩:=four_named hwa;have e0:=zac (v:=.int .i64 a) ((cell_at b0 0).trans rfl) (by omega);have e1:=zac (v:=.int .i64 b) ((cell_at b0 1).trans rfl) (by omega);have p0:=zac (v:=.int .i64 3) ((cell_at b1 0).trans rfl) (by omega);have p1:=zac (v:=.int .i64 0) ((cell_at b1 1).trans rfl) (by omega);have f0:=zac (v:=.int .i64 (i%65536)) ((cell_at b2 0).trans rfl) (by omega);have f1:=zac (v:=.int .i64 (-(i%65536))) ((cell_at b2 1).trans rfl) (by omega);have f2:=zac (v:=.int .i64 0) ((cell_at b2 2).trans rfl) (by omega);have f3:=zac (v:=.int .i64 (i%2)) ((cell_at b2 3).trans rfl) (by omega);have B0:=hide B;clear hwa b0 b1 b2 b3 B;haveI:=zal wa;refine zan (by kernel_rfl) (by kernel_rfl) ?_
  repeat (go_big_quiet_step ((first
   |(go_at_call 153;exact zap (zaN _ _ _ (by omega) (by omega))))))
  refine wpQuiet_nil ?_;rintro _ ⟨wk,rfl⟩;go_wp2;go_ret2;exact ⟨rfl,zar B0.out wk.below⟩
 ·
  go_wp2_with fail;refine under_name fun wa hwa=>?_
  obtain ⟨⟨b0,b1,b2,b3⟩,hs,B⟩:=four_named hwa;have e0:=zac (v:=.int .i64 a) ((cell_at b0 0).trans rfl) (by omega);have e1:=zac (v:=.int .i64 b) ((cell_at b0 1).trans rfl) (by omega);have p0:=zac (v:=.int .i64 3) ((cell_at b3 0).trans rfl) (by omega);have p1:=zac (v:=.int .i64 0) ((cell_at b3 1).trans rfl) (by omega);have f0:=zac (v:=.int .i64 (i%65536)) ((cell_at b1 0).trans rfl) (by omega);have f1:=zac (v:=.int .i64 (-(i%65536))) ((cell_at b1 1).trans rfl) (by omega);have f2:=zac (v:=.int .i64 0) ((cell_at b1 2).trans rfl) (by omega);have f3:=zac (v:=.int .i64 (i%2)) ((cell_at b1 3).trans rfl) (by omega);have B0:=hide B;clear hwa b0 b1 b2 b3 B;haveI:=zal wa;refine zan (by kernel_rfl) (by kernel_rfl) ?_
  repeat (go_big_quiet_step ((first
   |(go_at_call 153;exact zap (zaN _ _ _ (by omega) (by omega))))))
  refine wpQuiet_nil ?_;rintro _ ⟨wk,rfl⟩;go_wp2;go_ret2;exact ⟨rfl,zar B0.out wk.below⟩
 ·
  go_wp2_with fail;refine under_name fun wa hwa=>?_
  obtain ⟨⟨b0,b1,b2,b3⟩,hs,B⟩:=four_named hwa;have e0:=zac (v:=.int .i64 a) ((cell_at b0 0).trans rfl) (by omega);have e1:=zac (v:=.int .i64 b) ((cell_at b0 1).trans rfl) (by omega);have p0:=zac (v:=.int .i64 3) ((cell_at b2 0).trans rfl) (by omega);have p1:=zac (v:=.int .i64 0) ((cell_at b2 1).trans rfl) (by omega);have f0:=zac (v:=.int .i64 (i%65536)) ((cell_at b1 0).trans rfl) (by omega);have f1:=zac (v:=.int .i64 (-(i%65536))) ((cell_at b1 1).trans rfl) (by omega);have f2:=zac (v:=.int .i64 0) ((cell_at b1 2).trans rfl) (by omega);have f3:=zac (v:=.int .i64 (i%2)) ((cell_at b1 3).trans rfl) (by omega);have B0:=hide B;clear hwa b0 b1 b2 b3 B;haveI:=zal wa;refine zan (by kernel_rfl) (by kernel_rfl) ?_
  repeat (go_big_quiet_step ((first
   |(go_at_call 153;exact zap (zaN _ _ _ (by omega) (by omega))))))
  refine wpQuiet_nil ?_;rintro _ ⟨wk,rfl⟩;go_wp2;go_ret2;exact ⟨rfl,zar B0.out wk.below⟩
end Go.Proofs.YtoijhhbiknhlnaaGreatDoor.K9
