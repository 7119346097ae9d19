/- The document's own: a port behind a write, and what is read. -/
import Derived.Test.YtnllcknfmciebaaGreatDoorBusPlaysJ22
import Derived.Deep.CutRange
namespace Go.Proofs.YtnllcknfmciebaaGreatDoor.J23
set_option maxRecDepth 20000
open Go.RowKit
set_option linter.unusedVariables false
set_option linter.unusedSimpArgs false
set_option maxHeartbeats 1000000 in
theorem rwrite_clr (S s d:Bool) (b i J x y:Int) (w:World) (ES:(x==1)=S) (EC:(y==1)=true) (hi:(i<0∧J=5)∨(5<i∧J=5)∨(0≤i∧i≤5∧J=i)) (C0:Hid (∀w,Calls Tryz.prog 106 #[.int .i64 b,.int .i64 0] w fun e w'=>e=Ending.returned (.int .i64 x)∧w'=w)) (C1:Hid (∀w,Calls Tryz.prog 106 #[.int .i64 b,.int .i64 1] w fun e w'=>e=Ending.returned (.int .i64 y)∧w'=w)) (hh:True):Calls Tryz.prog 55 #[.agg #[.bool s,.bool true,.bool d,.int .i64 i],.int .i64 b] w fun e w'=>e=Ending.returned (.agg #[.bool S,.bool true,.bool d,.int .i64 0])∧Below w.heap.size w w':=by
 rcases hi with ⟨h0,rfl⟩|⟨h0,rfl⟩|⟨h0,h1,rfl⟩
 all_goals first
  |omega
  |(go_enter Tryz.func55,Tryz.ntmps55
    go_wp2_with (first
     |(go_at_call_of 106 (Value.int .i64 0);refine (C0.out _).mono ?_;rintro e w' ⟨rfl,hw⟩;subst w')
     |(go_at_call_of 106 (Value.int .i64 1);refine (C1.out _).mono ?_;rintro e w' ⟨rfl,hw⟩;subst w'))
    go_returns
    exact ⟨rfl,((Below.refl _ w).alloc (Nat.le_refl _) _).alloc (by simp) _⟩)
set_option maxHeartbeats 1000000 in
theorem rwrite_turn (S s d:Bool) (b i J x y:Int) (w:World) (ES:(x==1)=S) (EC:(y==1)=true) (hi:(i<0∧J=5)∨(5<i∧J=5)∨(0≤i∧i≤5∧J=i)) (C0:Hid (∀w,Calls Tryz.prog 106 #[.int .i64 b,.int .i64 0] w fun e w'=>e=Ending.returned (.int .i64 x)∧w'=w)) (C1:Hid (∀w,Calls Tryz.prog 106 #[.int .i64 b,.int .i64 1] w fun e w'=>e=Ending.returned (.int .i64 y)∧w'=w)) (hh:True):Calls Tryz.prog 55 #[.agg #[.bool s,.bool false,.bool d,.int .i64 i],.int .i64 b] w fun e w'=>e=Ending.returned (.agg #[.bool S,.bool true,.bool (!d),.int .i64 0])∧Below w.heap.size w w':=by
 rcases hi with ⟨h0,rfl⟩|⟨h0,rfl⟩|⟨h0,h1,rfl⟩
 all_goals first
  |omega
  |(go_enter Tryz.func55,Tryz.ntmps55
    go_wp2_with (first
     |(go_at_call_of 106 (Value.int .i64 0);refine (C0.out _).mono ?_;rintro e w' ⟨rfl,hw⟩;subst w')
     |(go_at_call_of 106 (Value.int .i64 1);refine (C1.out _).mono ?_;rintro e w' ⟨rfl,hw⟩;subst w'))
    go_returns
    exact ⟨rfl,((Below.refl _ w).alloc (Nat.le_refl _) _).alloc (by simp) _⟩)
set_option maxHeartbeats 1000000 in
theorem rwrite_off (s c d:Bool) (b i J x y:Int) (w:World) (ES:(x==1)=false) (EC:(y==1)=false) (hi:(i<0∧J=5)∨(5<i∧J=5)∨(0≤i∧i≤5∧J=i)) (C0:Hid (∀w,Calls Tryz.prog 106 #[.int .i64 b,.int .i64 0] w fun e w'=>e=Ending.returned (.int .i64 x)∧w'=w)) (C1:Hid (∀w,Calls Tryz.prog 106 #[.int .i64 b,.int .i64 1] w fun e w'=>e=Ending.returned (.int .i64 y)∧w'=w)) (hh:True):Calls Tryz.prog 55 #[.agg #[.bool s,.bool c,.bool d,.int .i64 i],.int .i64 b] w fun e w'=>e=Ending.returned (.agg #[.bool false,.bool false,.bool d,.int .i64 J])∧Below w.heap.size w w':=by
 rcases hi with ⟨h0,rfl⟩|⟨h0,rfl⟩|⟨h0,h1,rfl⟩
 all_goals first
  |omega
  |(go_enter Tryz.func55,Tryz.ntmps55
    go_wp2_with (first
     |(go_at_call_of 106 (Value.int .i64 0);refine (C0.out _).mono ?_;rintro e w' ⟨rfl,hw⟩;subst w')
     |(go_at_call_of 106 (Value.int .i64 1);refine (C1.out _).mono ?_;rintro e w' ⟨rfl,hw⟩;subst w'))
    go_returns
    exact ⟨rfl,((Below.refl _ w).alloc (Nat.le_refl _) _).alloc (by simp) _⟩)
set_option maxHeartbeats 1000000 in
theorem rwrite_still (c d:Bool) (b i J x y:Int) (w:World) (ES:(x==1)=true) (EC:(y==1)=false) (hi:(i<0∧J=5)∨(5<i∧J=5)∨(0≤i∧i≤5∧J=i)) (C0:Hid (∀w,Calls Tryz.prog 106 #[.int .i64 b,.int .i64 0] w fun e w'=>e=Ending.returned (.int .i64 x)∧w'=w)) (C1:Hid (∀w,Calls Tryz.prog 106 #[.int .i64 b,.int .i64 1] w fun e w'=>e=Ending.returned (.int .i64 y)∧w'=w)) (hh:True):Calls Tryz.prog 55 #[.agg #[.bool true,.bool c,.bool d,.int .i64 i],.int .i64 b] w fun e w'=>e=Ending.returned (.agg #[.bool true,.bool false,.bool d,.int .i64 J])∧Below w.heap.size w w':=by
 rcases hi with ⟨h0,rfl⟩|⟨h0,rfl⟩|⟨h0,h1,rfl⟩
 all_goals first
  |omega
  |(go_enter Tryz.func55,Tryz.ntmps55
    go_wp2_with (first
     |(go_at_call_of 106 (Value.int .i64 0);refine (C0.out _).mono ?_;rintro e w' ⟨rfl,hw⟩;subst w')
     |(go_at_call_of 106 (Value.int .i64 1);refine (C1.out _).mono ?_;rintro e w' ⟨rfl,hw⟩;subst w'))
    go_returns
    exact ⟨rfl,((Below.refl _ w).alloc (Nat.le_refl _) _).alloc (by simp) _⟩)
set_option maxHeartbeats 1000000 in
theorem rwrite_on (c d:Bool) (b i J x y:Int) (w:World) (ES:(x==1)=true) (EC:(y==1)=false) (hi:(i<0∧J=5)∨(5<i∧J=5)∨(0≤i∧i≤5∧J=i)) (C0:Hid (∀w,Calls Tryz.prog 106 #[.int .i64 b,.int .i64 0] w fun e w'=>e=Ending.returned (.int .i64 x)∧w'=w)) (C1:Hid (∀w,Calls Tryz.prog 106 #[.int .i64 b,.int .i64 1] w fun e w'=>e=Ending.returned (.int .i64 y)∧w'=w)) (hlt:J<5):Calls Tryz.prog 55 #[.agg #[.bool false,.bool c,.bool d,.int .i64 i],.int .i64 b] w fun e w'=>e=Ending.returned (.agg #[.bool true,.bool false,.bool d,.int .i64 (J+1)])∧Below w.heap.size w w':=by
 rcases hi with ⟨h0,rfl⟩|⟨h0,rfl⟩|⟨h0,h1,rfl⟩
 all_goals first
  |omega
  |(go_enter Tryz.func55,Tryz.ntmps55
    go_wp2_with (first
     |(go_at_call_of 106 (Value.int .i64 0);refine (C0.out _).mono ?_;rintro e w' ⟨rfl,hw⟩;subst w')
     |(go_at_call_of 106 (Value.int .i64 1);refine (C1.out _).mono ?_;rintro e w' ⟨rfl,hw⟩;subst w'))
    go_returns
    exact ⟨rfl,((Below.refl _ w).alloc (Nat.le_refl _) _).alloc (by simp) _⟩)
set_option maxHeartbeats 1000000 in
theorem rwrite_last (c d:Bool) (b i J x y:Int) (w:World) (ES:(x==1)=true) (EC:(y==1)=false) (hi:(i<0∧J=5)∨(5<i∧J=5)∨(0≤i∧i≤5∧J=i)) (C0:Hid (∀w,Calls Tryz.prog 106 #[.int .i64 b,.int .i64 0] w fun e w'=>e=Ending.returned (.int .i64 x)∧w'=w)) (C1:Hid (∀w,Calls Tryz.prog 106 #[.int .i64 b,.int .i64 1] w fun e w'=>e=Ending.returned (.int .i64 y)∧w'=w)) (hlt:5≤J):Calls Tryz.prog 55 #[.agg #[.bool false,.bool c,.bool d,.int .i64 i],.int .i64 b] w fun e w'=>e=Ending.returned (.agg #[.bool true,.bool false,.bool d,.int .i64 J])∧Below w.heap.size w w':=by
 rcases hi with ⟨h0,rfl⟩|⟨h0,rfl⟩|⟨h0,h1,rfl⟩
 all_goals first
  |omega
  |(go_enter Tryz.func55,Tryz.ntmps55
    go_wp2_with (first
     |(go_at_call_of 106 (Value.int .i64 0);refine (C0.out _).mono ?_;rintro e w' ⟨rfl,hw⟩;subst w')
     |(go_at_call_of 106 (Value.int .i64 1);refine (C1.out _).mono ?_;rintro e w' ⟨rfl,hw⟩;subst w'))
    go_returns
    exact ⟨rfl,((Below.refl _ w).alloc (Nat.le_refl _) _).alloc (by simp) _⟩)
theorem rwrite_any (s c d:Bool) (i b:Int) (w:World):Calls Tryz.prog 55 #[.agg #[.bool s,.bool c,.bool d,.int .i64 i],.int .i64 b] w fun e w'=>e=Ending.returned (.agg #[.bool (selB b),.bool (clrB b),.bool (nxD c d (clrB b)),.int .i64 (nxI s (selB b) (clrB b) i)])∧Below w.heap.size w w':=by
 have hJ:(i<0∧bndI i=5)∨(5<i∧bndI i=5)∨(0≤i∧i≤5∧bndI i=i):=by unfold bndI;split<;>omega
 have C0:=hide (fun w=>rbit_any b 0 w)
 have C1:=hide (fun w=>rbit_any b 1 w)
 have es:(bitOf b 0==1)=selB b:=rfl
 have ec:(bitOf b 1==1)=clrB b:=rfl
 unfold nxD nxI
 revert es ec
 generalize selB b=S
 generalize clrB b=C
 intro es ec
 cases C
 ·cases S
  ·exact rwrite_off s c d b i _ _ _ w es ec hJ C0 C1 trivial
  ·cases s
   ·by_cases h:bndI i<5
    ·have e:min (bndI i+1) 5=bndI i+1:=by omega
     simp only [Bool.not_false,Bool.and_true,if_true,Bool.false_eq_true,if_false,Bool.false_and,e]
     exact rwrite_on c d b i _ _ _ w es ec hJ C0 C1 h
    ·have e:min (bndI i+1) 5=bndI i:=by omega
     simp only [Bool.not_false,Bool.and_true,if_true,Bool.false_eq_true,if_false,Bool.false_and,e]
     exact rwrite_last c d b i _ _ _ w es ec hJ C0 C1 (by omega)
   ·exact rwrite_still c d b i _ _ _ w es ec hJ C0 C1 trivial
 ·cases c
  ·exact rwrite_turn S s d b i _ _ _ w es ec hJ C0 C1 trivial
  ·exact rwrite_clr S s d b i _ _ _ w es ec hJ C0 C1 trivial
set_option maxHeartbeats 1000000 in
theorem rread_in (s c d x ab:Bool) (n:Nat) (k:Int) (R:Array Value) (hn:n<5) (hR:R[n*2]? = some (.int .i64 k)) (hX:R[n*2+1]? = some (.bool x)) (w:World):
  Calls Tryz.prog 37 #[.agg #[.bool s,.bool c,.bool d,.int .i64 n],.agg R,.bool ab] w fun e w'=>e=Ending.returned (.int .i64 ((if ab then 191 else 255)-askOf s d k x))∧Below w.heap.size w w':=by
 have K0:=hide (fun w=>rword_any k w)
 have HR:=hide hR
 have HX:=hide hX
 clear hR hX
 have q0:0≤k%65536:=by omega
 have q1:k%65536<65536:=by omega
 unfold askOf
 generalize k%65536=q at *
 have t1:Int.tmod q 16=q%16:=Int.tmod_eq_emod_of_nonneg (by omega)
 have t2:Int.tdiv q 16=q/16:=Int.tdiv_eq_ediv_of_nonneg (by omega)
 have t3:Int.tmod (q/16) 16=q/16%16:=Int.tmod_eq_emod_of_nonneg (by omega)
 have t4:Int.tdiv q 256=q/256:=Int.tdiv_eq_ediv_of_nonneg (by omega)
 have t5:Int.tmod (q/256) 16=q/256%16:=Int.tmod_eq_emod_of_nonneg (by omega)
 cases s<;>cases d<;>cases x<;>cases ab<;>simp only [Bool.and_true,Bool.and_false,Bool.true_and,Bool.false_and,if_true,if_false,Bool.false_eq_true]
 all_goals
  go_enter Tryz.func37,Tryz.ntmps37
  go_upto_region 1 with fail
  refine under_name fun wa hwa=>?_
  have P0:=(show HasP 77 wa w.heap.size _ c _ n by rw [hwa];exact (hasP_new _ _ _ _ _ _).next ((Below.refl _ _).alloc (Nat.le_refl _) _))
  have p0:=P0.c0
  have p2:=P0.c2
  have p3:=P0.c3
  have Q0:=(show wa.heap[w.heap.size+1]? = some (.cells R 79 (0,0)) by rw [hwa];exact heap_alloc2_new _ _ _)
  have r0:=(cell_of_row wa (w.heap.size+1) (n*2) _ _ _ Q0).trans HR.out
  have r1:=(cell_of_row wa (w.heap.size+1) (n*2+1) _ _ _ Q0).trans HX.out
  have BA:=hide (show Below w.heap.size w wa by rw [hwa];exact ((Below.refl _ w).alloc (Nat.le_refl _) _).alloc (by simp) _)
  clear hwa P0 Q0
  go_wp2_with (first|(go_at_call 62;refine (K0.out _).mono ?_;rintro e w' ⟨rfl,hw⟩;subst w'))
  go_ret
  exact ⟨by first|rfl|exact ret_int (by omega),BA.out⟩
theorem rread_out (s c d ab:Bool) (i:Int) (R:Array Value) (hi:i<0∨5≤i) (w:World):
  Calls Tryz.prog 37 #[.agg #[.bool s,.bool c,.bool d,.int .i64 i],.agg R,.bool ab] w fun e w'=>e=Ending.returned (.int .i64 (if ab then 191 else 255))∧Below w.heap.size w w':=by
 rcases hi with hi|hi<;>cases ab
 all_goals
  go_enter Tryz.func37,Tryz.ntmps37
  go_wp2
  go_ret
  exact ⟨rfl,((Below.refl _ w).alloc (Nat.le_refl _) _).alloc (by simp) _⟩
theorem rread_any (s c d:Bool) (i:Int) (K:Nat→Int) (X:Nat→Bool) (ab:Bool) (w:World):
  Calls Tryz.prog 37 #[.agg #[.bool s,.bool c,.bool d,.int .i64 i],.agg (rowF (pc K X) 10),.bool ab] w fun e w'=>e=Ending.returned (.int .i64 (rdOf s d i K X ab))∧Below w.heap.size w w':=by
 unfold rdOf preOf
 by_cases h:0≤i∧i<5
 ·rw [if_pos h]
  obtain ⟨n,rfl⟩:=Int.eq_ofNat_of_zero_le h.1
  refine rread_in s c d (X n) ab n (K n) _ (by omega) ?_ ?_ w
  ·rw [rowF_at _ _ _ (by omega)]
   simp [pc]
  ·rw [rowF_at _ _ _ (by omega)]
   simp [pc,show (n*2+1)/2=n by omega]
 ·rw [if_neg h,Int.sub_zero]
  exact rread_out s c d ab i _ (by omega) w
end Go.Proofs.YtnllcknfmciebaaGreatDoor.J23
