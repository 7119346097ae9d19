/- Contracts of package pad: what each of its functions returns. -/
import Derived.Test.YtnllcknfmciebaaGreatDoorBusPlaysJ03
import Derived.Test.YtnllcknfmciebaaGreatDoorBusPlaysJ01
namespace Go.Proofs.YtnllcknfmciebaaGreatDoor.J23
set_option maxRecDepth 20000
open Go.RowKit
set_option linter.unusedVariables false
set_option linter.unusedSimpArgs false
theorem wpQuiet_mid {P:Program} {ops:Array Oper} {C:World→Prop} {Q:Act→Prop} {a:Act} {o:Oper} {rest:List Oper} (hw:Region.wanted o (yielded ops a.tmps)=true) (ty:TypeId) (x:Operand) (ho:o.op=.load ty x)
  (b off:Nat) (hx:a.eval x=.pointer (some ⟨b,off,none⟩)) (cs:Array Value) (d:TypeDesc) (hc:∀w,C w→w.rangeAt b off cs.toList)
  (hu:P.underlying ty=some d) (hd:d.isRow=true) (hi:(P.info? ty).map (·.size)=some cs.size)
  (h:wpQuiet P ops C Q rest (a.put o.dst (.agg cs))):wpQuiet P ops C Q (o::rest) a:=by
 unfold wpQuiet
 rw [if_pos hw]
 refine ⟨.agg cs,fun w hC=>?_,h⟩
 unfold Oper.quietAt execOp
 have k:=run_loadVar_mid (P:=P) w b off ty cs.toList d (hc w hC) hu hd (by rw [Array.length_toList];exact hi)
 simp only [ho,hx,Instr.loadAt,Instr.sureAddr,Sem.run_bind,Sem.run_pure,Result.andThen_ok,k]
 exact ⟨rfl,rfl⟩
def HasP (t:TypeId) (w:World) (b:Nat) (s c d:Bool) (i:Int):Prop:=w.heap[b]? = some (.cells #[.bool s,.bool c,.bool d,.int .i64 i] t (0,0))
theorem HasP.lt {t:TypeId} {w:World} {b:Nat} {s c d:Bool} {i:Int} (h:HasP t w b s c d i):b<w.heap.size:=lt_of_block h
theorem HasP.next {t:TypeId} {w:World} {b:Nat} {s c d:Bool} {i:Int} (h:HasP t w b s c d i) {w':World} (k:Below w.heap.size w w'):HasP t w' b s c d i:=(k.block b (lt_of_block h)).trans h
theorem HasP.c0 {t:TypeId} {w:World} {b:Nat} {s c d:Bool} {i:Int} (h:HasP t w b s c d i):w.cell? ⟨b,0,none⟩=some (.bool s):=(cell_of_row w b 0 _ _ _ h).trans rfl
theorem HasP.c1 {t:TypeId} {w:World} {b:Nat} {s c d:Bool} {i:Int} (h:HasP t w b s c d i):w.cell? ⟨b,1,none⟩=some (.bool c):=(cell_of_row w b 1 _ _ _ h).trans rfl
theorem HasP.c2 {t:TypeId} {w:World} {b:Nat} {s c d:Bool} {i:Int} (h:HasP t w b s c d i):w.cell? ⟨b,2,none⟩=some (.bool d):=(cell_of_row w b 2 _ _ _ h).trans rfl
theorem HasP.c3 {t:TypeId} {w:World} {b:Nat} {s c d:Bool} {i:Int} (h:HasP t w b s c d i):w.cell? ⟨b,3,none⟩=some (.int .i64 i):=(cell_of_row w b 3 _ _ _ h).trans rfl
theorem HasP.frozen {t:TypeId} {w:World} {b:Nat} {s c d:Bool} {i:Int} (h:HasP t w b s c d i) (j:Nat):w.frozen? ⟨b,j,none⟩=false:=frozen_of_row w b j _ _ h
theorem HasP.set2 {t:TypeId} {w:World} {b:Nat} {s c d:Bool} {i:Int} (h:HasP t w b s c d i) (x:Bool):HasP t (w.setCell ⟨b,2,none⟩ (.bool x)) b s c x i:=heap_setCell_same w b 2 _ _ _ h
theorem HasP.set3 {t:TypeId} {w:World} {b:Nat} {s c d:Bool} {i:Int} (h:HasP t w b s c d i) (x:Int):HasP t (w.setCell ⟨b,3,none⟩ (.int .i64 x)) b s c d x:=heap_setCell_same w b 3 _ _ _ h
theorem hasP_new (t:TypeId) (w:World) (s c d:Bool) (i:Int):HasP t (w.alloc (.cells #[.bool s,.bool c,.bool d,.int .i64 i] t)) w.heap.size s c d i:=heap_alloc_new _ _
def pc (K:Nat→Int) (X:Nat→Bool):Nat→Value:=fun j=>if j%2=0 then .int .i64 (K (j/2)) else .bool (X (j/2))
theorem pc_part (K:Nat→Int) (X:Nat→Bool) (n:Nat):rowF (fun j=>pc K X (n*2+j)) 2=#[.int .i64 (K n),.bool (X n)]:=by
 show (([0,1]:List Nat).map fun j=>pc K X (n*2+j)).toArray=_
 simp [pc,show (n*2+1)/2=n by omega]
def bndI (i:Int):Int:=if i<0∨5<i then 5 else i
theorem bndI_in (i:Int):0≤bndI i∧bndI i≤5:=by unfold bndI;split<;>omega
theorem bounded_any (i:Int) (w:World):Calls Tryz.prog 98 #[.int .i64 i] w fun e w'=>e=Ending.returned (.int .i64 (bndI i))∧w'=w:=by
 unfold bndI
 by_cases h0:i<0
 ·rw [if_pos (.inl h0)]
  go_enter Tryz.func98,Tryz.ntmps98
  go_wp2
  go_ret
  exact ⟨rfl,rfl⟩
 ·by_cases h5:5<i
  ·rw [if_pos (.inr h5)]
   go_enter Tryz.func98,Tryz.ntmps98
   go_wp2
   go_ret
   exact ⟨rfl,rfl⟩
  ·rw [if_neg (by omega)]
   go_enter Tryz.func98,Tryz.ntmps98
   go_wp2
   go_ret
   exact ⟨rfl,rfl⟩
theorem four_0 (k:Int) (w:World):Calls Tryz.prog 155 #[.int .i64 k,.int .i64 0] w fun e w'=>e=Ending.returned (.int .i64 (k%65536/1%16))∧w'=w:=by
 have HM:=hide (and_15 (k%65536/1))
 go_enter Tryz.func155,Tryz.ntmps155
 go_wp2_with (first|(go_at_call 60;refine (word_any _ _).mono ?_;rintro e w' ⟨rfl,hw⟩;subst w'))
 go_ret
 exact ⟨ret_int (by first|exact HM.out|simpa using HM.out),rfl⟩
theorem four_4 (k:Int) (w:World):Calls Tryz.prog 155 #[.int .i64 k,.int .i64 4] w fun e w'=>e=Ending.returned (.int .i64 (k%65536/16%16))∧w'=w:=by
 have HM:=hide (and_15 (k%65536/16))
 go_enter Tryz.func155,Tryz.ntmps155
 go_wp2_with (first|(go_at_call 60;refine (word_any _ _).mono ?_;rintro e w' ⟨rfl,hw⟩;subst w'))
 go_ret
 exact ⟨ret_int (by first|exact HM.out|simpa using HM.out),rfl⟩
theorem four_8 (k:Int) (w:World):Calls Tryz.prog 155 #[.int .i64 k,.int .i64 8] w fun e w'=>e=Ending.returned (.int .i64 (k%65536/256%16))∧w'=w:=by
 have HM:=hide (and_15 (k%65536/256))
 go_enter Tryz.func155,Tryz.ntmps155
 go_wp2_with (first|(go_at_call 60;refine (word_any _ _).mono ?_;rintro e w' ⟨rfl,hw⟩;subst w'))
 go_ret
 exact ⟨ret_int (by first|exact HM.out|simpa using HM.out),rfl⟩
def askOf (s d:Bool) (k:Int) (x:Bool):Int:=if d&&x then (if s then 15 else k%65536/256%16) else if s then k%65536/16%16 else k%65536/1%16
theorem askOf_in (s d:Bool) (k:Int) (x:Bool):0≤askOf s d k x∧askOf s d k x<16:=by
 unfold askOf
 split
 ·split<;>omega
 ·split<;>omega
theorem asked_any (s c d:Bool) (i k:Int) (x:Bool) (w:World):Calls Tryz.prog 124 #[.agg #[.bool s,.bool c,.bool d,.int .i64 i],.agg #[.int .i64 k,.bool x]] w fun e w'=>e=Ending.returned (.int .i64 (askOf s d k x))∧Below w.heap.size w w':=by
 cases s<;>cases d<;>cases x<;>simp only [askOf,Bool.and_true,Bool.and_false,Bool.true_and,Bool.false_and,if_true,if_false,Bool.false_eq_true]
 all_goals
  go_enter Tryz.func124,Tryz.ntmps124
  go_wp2_with (first
   |(go_at_call_of 155 (Value.int .i64 0);refine (four_0 _ _).mono ?_;rintro e w' ⟨rfl,hw⟩;subst w')
   |(go_at_call_of 155 (Value.int .i64 4);refine (four_4 _ _).mono ?_;rintro e w' ⟨rfl,hw⟩;subst w')
   |(go_at_call_of 155 (Value.int .i64 8);refine (four_8 _ _).mono ?_;rintro e w' ⟨rfl,hw⟩;subst w'))
  go_ret
  exact ⟨by first|rfl|exact ret_int (by omega),((Below.refl _ w).alloc (Nat.le_refl _) _).alloc (by simp) _⟩
def preOf (s d:Bool) (i:Int) (K:Nat→Int) (X:Nat→Bool):Int:=if 0≤i∧i<5 then askOf s d (K i.toNat) (X i.toNat) else 0
theorem preOf_in (s d:Bool) (i:Int) (K:Nat→Int) (X:Nat→Bool):0≤preOf s d i K X∧preOf s d i K X<16:=by
 unfold preOf
 split
 ·exact askOf_in _ _ _ _
 ·omega
def rdOf (s d:Bool) (i:Int) (K:Nat→Int) (X:Nat→Bool) (ab:Bool):Int:=(if ab then 191 else 255)-preOf s d i K X
theorem put_home (ab:Bool):putOf 176 6 (!ab)=if ab then 176 else 240:=by cases ab<;>decide
theorem read_in (s c d:Bool) (n:Nat) (K:Nat→Int) (X:Nat→Bool) (ab:Bool) (p:Int) (hn:n<5) (hp:Hid (askOf s d (K n) (X n)=p)) (p0:0≤p) (p1:p<16) (w:World):
  Calls Tryz.prog 81 #[.agg #[.bool s,.bool c,.bool d,.int .i64 n],.agg (rowF (pc K X) 10),.bool ab] w fun e w'=>e=Ending.returned (.int .i64 ((if ab then 191 else 255)-p))∧Below w.heap.size w w':=by
 have KA:=hide (fun w=>asked_any s c d n (K n) (X n) w)
 rw [hp.out] at KA
 have KP:=hide (fun w=>put_any 176 6 (!ab) w)
 rw [put_home] at KP
 have HE:Hid ((if ab then (176:Int) else 240)+15-p=(if ab then (191:Int) else 255)-p):=hide (by cases ab<;>simp)
 have hq:0≤(if ab then (176:Int) else 240)∧(if ab then (176:Int) else 240)≤240:=by cases ab<;>simp
 generalize (if ab then (176:Int) else 240)=q at *
 generalize (if ab then (191:Int) else 255)=r at *
 go_enter Tryz.func81,Tryz.ntmps81
 go_wp2_with fail
 refine under_name fun wa hwa=>?_
 have P0:HasP 59 wa w.heap.size s c d n:=by rw [hwa];exact (hasP_new _ _ _ _ _ _).next ((Below.refl _ _).alloc (Nat.le_refl _) _)
 have Q0:HasF 62 wa (w.heap.size+1) 10 (pc K X):=by rw [hwa];exact hasF_new2 _ _ _ _ _
 have BA:Hid (Below w.heap.size w wa):=hide (by rw [hwa];exact ((Below.refl _ w).alloc (Nat.le_refl _) _).alloc (by simp) _)
 have i0:=kept_cell P0.c0 P0.lt
 have i1:=kept_cell P0.c1 P0.lt
 have i2:=kept_cell P0.c2 P0.lt
 have i3:=kept_cell P0.c3 P0.lt
 have RQ:=hide (Q0.range (n*2) 2 (by omega))
 rw [pc_part] at RQ
 have HQ:=hide Q0.lt
 clear hwa P0 Q0
 haveI:=kept_some wa
 refine wp_region_kept (by kernel_rfl) (by kernel_rfl) ?_
 repeat (first
  |(refine wpQuiet_mid rfl 61 (.tmp 19) rfl (w.heap.size+1) (n*2) rfl #[.int .i64 (K n),.bool (X n)] _ (fun w' ⟨x,hx⟩=>by rw [hx];intro j v hv;rw [x.cell (w.heap.size+1) _ HQ.out];exact RQ.out j v hv) Tryz.underlying61 rfl (by kernel_rfl) ?_;simp only [Act.put,List.setIfInBounds_toArray,List.set_cons_succ,List.set_cons_zero])
  |go_big_quiet_step ((go_at_call 124;exact kept_call (KA.out _))))
 refine wpQuiet_nil ?_
 rintro _ ⟨wk,rfl⟩
 go_wp2_with (first|(go_at_call 123;refine (KP.out _).mono ?_;rintro e w2 ⟨rfl,b2⟩))
 go_ret
 exact ⟨ret_int HE.out,bnext (bnext BA.out wk.below) b2⟩
theorem read_out (s c d:Bool) (i:Int) (K:Nat→Int) (X:Nat→Bool) (ab:Bool) (hi:i<0∨5≤i) (w:World):
  Calls Tryz.prog 81 #[.agg #[.bool s,.bool c,.bool d,.int .i64 i],.agg (rowF (pc K X) 10),.bool ab] w fun e w'=>e=Ending.returned (.int .i64 (if ab then 191 else 255))∧Below w.heap.size w w':=by
 have KP:=hide (fun w=>put_any 176 6 (!ab) w)
 rw [put_home] at KP
 have HE:Hid ((if ab then (176:Int) else 240)+15=(if ab then (191:Int) else 255)):=hide (by cases ab<;>simp)
 have hq:0≤(if ab then (176:Int) else 240)∧(if ab then (176:Int) else 240)≤240:=by cases ab<;>simp
 generalize (if ab then (176:Int) else 240)=q at *
 generalize (if ab then (191:Int) else 255)=r at *
 generalize rowF (pc K X) 10=R at *
 rcases hi with hi|hi
 all_goals
  go_enter Tryz.func81,Tryz.ntmps81
  go_wp2_with (first|(go_at_call 123;refine (KP.out _).mono ?_;rintro e w2 ⟨rfl,b2⟩))
  go_ret
  exact ⟨ret_int (by have:=HE.out;omega),bnext (((Below.refl _ w).alloc (Nat.le_refl _) _).alloc (by simp) _) b2⟩
theorem read_any (s c d:Bool) (i:Int) (K:Nat→Int) (X:Nat→Bool) (ab:Bool) (w:World):
  Calls Tryz.prog 81 #[.agg #[.bool s,.bool c,.bool d,.int .i64 i],.agg (rowF (pc K X) 10),.bool ab] w fun e w'=>e=Ending.returned (.int .i64 (rdOf s d i K X ab))∧Below w.heap.size w w':=by
 unfold rdOf preOf
 by_cases h:0≤i∧i<5
 ·rw [if_pos h]
  obtain ⟨n,rfl⟩:=Int.eq_ofNat_of_zero_le h.1
  exact read_in s c d n K X ab _ (by omega) (hide rfl) (askOf_in _ _ _ _).1 (askOf_in _ _ _ _).2 w
 ·rw [if_neg h,Int.sub_zero]
  exact read_out s c d i K X ab (by omega) w
def nxD (c d C:Bool):Bool:=if C&&!c then !d else d
def nxI (s S C:Bool) (i:Int):Int:=if C then 0 else if S&&!s then min (bndI i+1) 5 else bndI i
def selB (b:Int):Bool:=bitOf b 0==1
def clrB (b:Int):Bool:=bitOf b 1==1
set_option maxHeartbeats 1000000 in
theorem write_clr (S s d:Bool) (b i J x y:Int) (w:World) (ES:(x==1)=S) (EC:(y==1)=true) (hJ:0≤J∧J≤5) (C0:Hid (∀w,Calls Tryz.prog 97 #[.int .i64 b,.int .i64 0] w fun e w'=>e=Ending.returned (.int .i64 x)∧w'=w)) (C1:Hid (∀w,Calls Tryz.prog 97 #[.int .i64 b,.int .i64 1] w fun e w'=>e=Ending.returned (.int .i64 y)∧w'=w)) (CB:Hid (∀w,Calls Tryz.prog 98 #[.int .i64 i] w fun e w'=>e=Ending.returned (.int .i64 J)∧w'=w)) (hh:True):Calls Tryz.prog 46 #[.agg #[.bool s,.bool true,.bool d,.int .i64 i],.int .i64 b] w fun e w'=>e=Ending.returned (.agg #[.bool S,.bool true,.bool d,.int .i64 0])∧Below w.heap.size w w':=by
 go_enter Tryz.func46,Tryz.ntmps46
 go_wp2_with fail
 refine under_name fun wa hwa=>?_
 have P0:=hide (show HasP 59 wa w.heap.size s true d i by rw [hwa];exact (hasP_new _ _ _ _ _ _).next ((Below.refl _ _).alloc (Nat.le_refl _) _))
 have R0:=hide (show HasP 59 wa (w.heap.size+1) false false false 0 by rw [hwa];exact heap_alloc2_new _ _ _)
 have BA:=hide (show Below w.heap.size w wa by rw [hwa];exact ((Below.refl _ w).alloc (Nat.le_refl _) _).alloc (by simp) _)
 clear hwa
 obtain ⟨z,hz⟩:∃z,w.heap.size=z:=⟨_,rfl⟩
 rw [hz] at P0 R0 ⊢
 have HZ:=hide hz
 clear hz
 refine wp_region_one _ _ _ (show _=([_,_,_,_,_,_,_,_,_,_,_,_]++[_])++[_] from rfl) #[.bool false,.bool false,.bool false,.int .i64 0] 59 43 5 (by kernel_rfl) (by kernel_rfl) (by kernel_rfl) (by kernel_rfl) rfl ?_ ?_
 ·intro a w
  set_option maxRecDepth 100000 in
  rfl
 apply Exists.intro
 refine ⟨fun V hV=>?_,?_⟩
 ·have I:=P0.out.next hV
  have i2:=kept_cell I.c2 I.lt
  have i3:=kept_cell I.c3 I.lt
  clear hV I
  haveI:=kept_some V
  repeat (go_big_quiet_step ((first
   |(go_at_call_of 97 (Value.int .i64 0);exact kept_same (C0.out _))
   |(go_at_call_of 97 (Value.int .i64 1);exact kept_same (C1.out _))
   |(go_at_call 98;exact kept_same (CB.out _)))))
  refine wpQuiet_nil ?_
  rfl
 intro g wx bx hg lg
 (try simp only [ES,EC])
 have G1:=hide (show HasP 59 (wx.setRow g #[.bool S,.bool true,.bool d,.int .i64 J]) g S true d J from setRow_heap _ _ _ _ _ _ hg)
 have hne:z+1≠g:=by have:=lt_of_block R0.out;omega
 have hnz:z≠g:=by have:=lt_of_block R0.out;omega
 have P1:=hide (show HasP 59 (wx.setRow g #[.bool S,.bool true,.bool d,.int .i64 J]) z s true d i from (setRow_other _ _ _ _ hnz).trans (P0.out.next bx))
 have R1:=hide (show HasP 59 (wx.setRow g #[.bool S,.bool true,.bool d,.int .i64 J]) (z+1) false false false 0 from (setRow_other _ _ _ _ hne).trans (R0.out.next bx))
 have B1:=hide (below_setRow (bnext BA.out bx) (Nat.le_trans BA.out.size lg) #[.bool S,.bool true,.bool d,.int .i64 J])
 have HG:=hide (show z+1≠g∧w.heap.size≤g from ⟨hne,Nat.le_trans BA.out.size lg⟩)
 have G0:=hide hg
 have HN:=hide hnz
 clear bx hg lg hne hnz BA R0 P0
 simp only [Act.put,List.setIfInBounds_toArray,List.set_cons_succ,List.set_cons_zero]
 refine wpList_store_row rfl 59 (.tmp 5) (.tmp 17) rfl g _ rfl rfl 59 _ G0.out (by kernel_rfl) rfl (by kernel_rfl) ?_
 refine under_list fun wb hwb=>?_
 rw [←hwb] at G1 R1 B1 P1
 clear hwb G0
 simp only [Act.put]
 have z3:=G1.out.frozen 3
 have z2:=G1.out.frozen 2
 have g0:=G1.out.c0
 have g1:=G1.out.c1
 have g2:=G1.out.c2
 have g3:=G1.out.c3
 have p0:=P1.out.c0
 have p1:=P1.out.c1
 have p2:=P1.out.c2
 have hzg:¬z=g:=HN.out
 have hgz:¬g=z:=fun e=>HN.out e.symm
 go_wp2_with (first
  |(refine wpList_load_row rfl 59 (.tmp 5) rfl g rfl _ _ _ _ (G1.out.set3 0) Tryz.underlying59 rfl (by kernel_rfl) ?_)
  |(refine wpList_store_row rfl 59 (.tmp 4) (.tmp 42) rfl (z+1) _ rfl rfl 59 _ ((Below.heap_setCell _ _ _ _ HG.out.1).trans R1.out) (by kernel_rfl) rfl (by kernel_rfl) ?_)
  |(refine bodyPost_ret (results_cell_row rfl _ _ (z+1) 59 _ (0,0) _ rfl (setRow_heap _ _ _ _ _ _ ((Below.heap_setCell _ _ _ _ HG.out.1).trans R1.out)) Tryz.underlying59 rfl (by kernel_rfl)) rfl ⟨rfl,below_setRow (B1.out.setCell (p:=⟨g,3,none⟩) HG.out.2 _) (by have:=HZ.out;omega) _⟩))
set_option maxHeartbeats 1000000 in
theorem write_turn (S s d:Bool) (b i J x y:Int) (w:World) (ES:(x==1)=S) (EC:(y==1)=true) (hJ:0≤J∧J≤5) (C0:Hid (∀w,Calls Tryz.prog 97 #[.int .i64 b,.int .i64 0] w fun e w'=>e=Ending.returned (.int .i64 x)∧w'=w)) (C1:Hid (∀w,Calls Tryz.prog 97 #[.int .i64 b,.int .i64 1] w fun e w'=>e=Ending.returned (.int .i64 y)∧w'=w)) (CB:Hid (∀w,Calls Tryz.prog 98 #[.int .i64 i] w fun e w'=>e=Ending.returned (.int .i64 J)∧w'=w)) (hh:True):Calls Tryz.prog 46 #[.agg #[.bool s,.bool false,.bool d,.int .i64 i],.int .i64 b] w fun e w'=>e=Ending.returned (.agg #[.bool S,.bool true,.bool (!d),.int .i64 0])∧Below w.heap.size w w':=by
 go_enter Tryz.func46,Tryz.ntmps46
 go_wp2_with fail
 refine under_name fun wa hwa=>?_
 have P0:=hide (show HasP 59 wa w.heap.size s false d i by rw [hwa];exact (hasP_new _ _ _ _ _ _).next ((Below.refl _ _).alloc (Nat.le_refl _) _))
 have R0:=hide (show HasP 59 wa (w.heap.size+1) false false false 0 by rw [hwa];exact heap_alloc2_new _ _ _)
 have BA:=hide (show Below w.heap.size w wa by rw [hwa];exact ((Below.refl _ w).alloc (Nat.le_refl _) _).alloc (by simp) _)
 clear hwa
 obtain ⟨z,hz⟩:∃z,w.heap.size=z:=⟨_,rfl⟩
 rw [hz] at P0 R0 ⊢
 have HZ:=hide hz
 clear hz
 refine wp_region_one _ _ _ (show _=([_,_,_,_,_,_,_,_,_,_,_,_]++[_])++[_] from rfl) #[.bool false,.bool false,.bool false,.int .i64 0] 59 43 5 (by kernel_rfl) (by kernel_rfl) (by kernel_rfl) (by kernel_rfl) rfl ?_ ?_
 ·intro a w
  set_option maxRecDepth 100000 in
  rfl
 apply Exists.intro
 refine ⟨fun V hV=>?_,?_⟩
 ·have I:=P0.out.next hV
  have i2:=kept_cell I.c2 I.lt
  have i3:=kept_cell I.c3 I.lt
  clear hV I
  haveI:=kept_some V
  repeat (go_big_quiet_step ((first
   |(go_at_call_of 97 (Value.int .i64 0);exact kept_same (C0.out _))
   |(go_at_call_of 97 (Value.int .i64 1);exact kept_same (C1.out _))
   |(go_at_call 98;exact kept_same (CB.out _)))))
  refine wpQuiet_nil ?_
  rfl
 intro g wx bx hg lg
 (try simp only [ES,EC])
 have G1:=hide (show HasP 59 (wx.setRow g #[.bool S,.bool true,.bool d,.int .i64 J]) g S true d J from setRow_heap _ _ _ _ _ _ hg)
 have hne:z+1≠g:=by have:=lt_of_block R0.out;omega
 have hnz:z≠g:=by have:=lt_of_block R0.out;omega
 have P1:=hide (show HasP 59 (wx.setRow g #[.bool S,.bool true,.bool d,.int .i64 J]) z s false d i from (setRow_other _ _ _ _ hnz).trans (P0.out.next bx))
 have R1:=hide (show HasP 59 (wx.setRow g #[.bool S,.bool true,.bool d,.int .i64 J]) (z+1) false false false 0 from (setRow_other _ _ _ _ hne).trans (R0.out.next bx))
 have B1:=hide (below_setRow (bnext BA.out bx) (Nat.le_trans BA.out.size lg) #[.bool S,.bool true,.bool d,.int .i64 J])
 have HG:=hide (show z+1≠g∧w.heap.size≤g from ⟨hne,Nat.le_trans BA.out.size lg⟩)
 have G0:=hide hg
 have HN:=hide hnz
 clear bx hg lg hne hnz BA R0 P0
 simp only [Act.put,List.setIfInBounds_toArray,List.set_cons_succ,List.set_cons_zero]
 refine wpList_store_row rfl 59 (.tmp 5) (.tmp 17) rfl g _ rfl rfl 59 _ G0.out (by kernel_rfl) rfl (by kernel_rfl) ?_
 refine under_list fun wb hwb=>?_
 rw [←hwb] at G1 R1 B1 P1
 clear hwb G0
 simp only [Act.put]
 have z3:=G1.out.frozen 3
 have z2:=G1.out.frozen 2
 have g0:=G1.out.c0
 have g1:=G1.out.c1
 have g2:=G1.out.c2
 have g3:=G1.out.c3
 have p0:=P1.out.c0
 have p1:=P1.out.c1
 have p2:=P1.out.c2
 have hzg:¬z=g:=HN.out
 have hgz:¬g=z:=fun e=>HN.out e.symm
 go_wp2_with (first
  |(refine wpList_load_row rfl 59 (.tmp 5) rfl g rfl _ _ _ _ ((G1.out.set3 0).set2 (!d)) Tryz.underlying59 rfl (by kernel_rfl) ?_)
  |(refine wpList_store_row rfl 59 (.tmp 4) (.tmp 42) rfl (z+1) _ rfl rfl 59 _ ((Below.heap_setCell _ _ _ _ HG.out.1).trans ((Below.heap_setCell _ _ _ _ HG.out.1).trans R1.out)) (by kernel_rfl) rfl (by kernel_rfl) ?_)
  |(refine bodyPost_ret (results_cell_row rfl _ _ (z+1) 59 _ (0,0) _ rfl (setRow_heap _ _ _ _ _ _ ((Below.heap_setCell _ _ _ _ HG.out.1).trans ((Below.heap_setCell _ _ _ _ HG.out.1).trans R1.out))) Tryz.underlying59 rfl (by kernel_rfl)) rfl ⟨rfl,below_setRow ((B1.out.setCell (p:=⟨g,3,none⟩) HG.out.2 _).setCell (p:=⟨g,2,none⟩) HG.out.2 _) (by have:=HZ.out;omega) _⟩))
set_option maxHeartbeats 1000000 in
theorem write_off (s c d:Bool) (b i J x y:Int) (w:World) (ES:(x==1)=false) (EC:(y==1)=false) (hJ:0≤J∧J≤5) (C0:Hid (∀w,Calls Tryz.prog 97 #[.int .i64 b,.int .i64 0] w fun e w'=>e=Ending.returned (.int .i64 x)∧w'=w)) (C1:Hid (∀w,Calls Tryz.prog 97 #[.int .i64 b,.int .i64 1] w fun e w'=>e=Ending.returned (.int .i64 y)∧w'=w)) (CB:Hid (∀w,Calls Tryz.prog 98 #[.int .i64 i] w fun e w'=>e=Ending.returned (.int .i64 J)∧w'=w)) (hh:True):Calls Tryz.prog 46 #[.agg #[.bool s,.bool c,.bool d,.int .i64 i],.int .i64 b] w fun e w'=>e=Ending.returned (.agg #[.bool false,.bool false,.bool d,.int .i64 J])∧Below w.heap.size w w':=by
 go_enter Tryz.func46,Tryz.ntmps46
 go_wp2_with fail
 refine under_name fun wa hwa=>?_
 have P0:=hide (show HasP 59 wa w.heap.size s c d i by rw [hwa];exact (hasP_new _ _ _ _ _ _).next ((Below.refl _ _).alloc (Nat.le_refl _) _))
 have R0:=hide (show HasP 59 wa (w.heap.size+1) false false false 0 by rw [hwa];exact heap_alloc2_new _ _ _)
 have BA:=hide (show Below w.heap.size w wa by rw [hwa];exact ((Below.refl _ w).alloc (Nat.le_refl _) _).alloc (by simp) _)
 clear hwa
 obtain ⟨z,hz⟩:∃z,w.heap.size=z:=⟨_,rfl⟩
 rw [hz] at P0 R0 ⊢
 have HZ:=hide hz
 clear hz
 refine wp_region_one _ _ _ (show _=([_,_,_,_,_,_,_,_,_,_,_,_]++[_])++[_] from rfl) #[.bool false,.bool false,.bool false,.int .i64 0] 59 43 5 (by kernel_rfl) (by kernel_rfl) (by kernel_rfl) (by kernel_rfl) rfl ?_ ?_
 ·intro a w
  set_option maxRecDepth 100000 in
  rfl
 apply Exists.intro
 refine ⟨fun V hV=>?_,?_⟩
 ·have I:=P0.out.next hV
  have i2:=kept_cell I.c2 I.lt
  have i3:=kept_cell I.c3 I.lt
  clear hV I
  haveI:=kept_some V
  repeat (go_big_quiet_step ((first
   |(go_at_call_of 97 (Value.int .i64 0);exact kept_same (C0.out _))
   |(go_at_call_of 97 (Value.int .i64 1);exact kept_same (C1.out _))
   |(go_at_call 98;exact kept_same (CB.out _)))))
  refine wpQuiet_nil ?_
  rfl
 intro g wx bx hg lg
 (try simp only [ES,EC])
 have G1:=hide (show HasP 59 (wx.setRow g #[.bool false,.bool false,.bool d,.int .i64 J]) g false false d J from setRow_heap _ _ _ _ _ _ hg)
 have hne:z+1≠g:=by have:=lt_of_block R0.out;omega
 have hnz:z≠g:=by have:=lt_of_block R0.out;omega
 have P1:=hide (show HasP 59 (wx.setRow g #[.bool false,.bool false,.bool d,.int .i64 J]) z s c d i from (setRow_other _ _ _ _ hnz).trans (P0.out.next bx))
 have R1:=hide (show HasP 59 (wx.setRow g #[.bool false,.bool false,.bool d,.int .i64 J]) (z+1) false false false 0 from (setRow_other _ _ _ _ hne).trans (R0.out.next bx))
 have B1:=hide (below_setRow (bnext BA.out bx) (Nat.le_trans BA.out.size lg) #[.bool false,.bool false,.bool d,.int .i64 J])
 have HG:=hide (show z+1≠g∧w.heap.size≤g from ⟨hne,Nat.le_trans BA.out.size lg⟩)
 have G0:=hide hg
 have HN:=hide hnz
 clear bx hg lg hne hnz BA R0 P0
 simp only [Act.put,List.setIfInBounds_toArray,List.set_cons_succ,List.set_cons_zero]
 refine wpList_store_row rfl 59 (.tmp 5) (.tmp 17) rfl g _ rfl rfl 59 _ G0.out (by kernel_rfl) rfl (by kernel_rfl) ?_
 refine under_list fun wb hwb=>?_
 rw [←hwb] at G1 R1 B1 P1
 clear hwb G0
 simp only [Act.put]
 have z3:=G1.out.frozen 3
 have z2:=G1.out.frozen 2
 have g0:=G1.out.c0
 have g1:=G1.out.c1
 have g2:=G1.out.c2
 have g3:=G1.out.c3
 have p0:=P1.out.c0
 have p1:=P1.out.c1
 have p2:=P1.out.c2
 have hzg:¬z=g:=HN.out
 have hgz:¬g=z:=fun e=>HN.out e.symm
 go_wp2_with (first
  |(refine wpList_load_row rfl 59 (.tmp 5) rfl g rfl _ _ _ _ G1.out Tryz.underlying59 rfl (by kernel_rfl) ?_)
  |(refine wpList_store_row rfl 59 (.tmp 4) (.tmp 42) rfl (z+1) _ rfl rfl 59 _ R1.out (by kernel_rfl) rfl (by kernel_rfl) ?_)
  |(refine bodyPost_ret (results_cell_row rfl _ _ (z+1) 59 _ (0,0) _ rfl (setRow_heap _ _ _ _ _ _ R1.out) Tryz.underlying59 rfl (by kernel_rfl)) rfl ⟨rfl,below_setRow B1.out (by have:=HZ.out;omega) _⟩))
set_option maxHeartbeats 1000000 in
theorem write_still (c d:Bool) (b i J x y:Int) (w:World) (ES:(x==1)=true) (EC:(y==1)=false) (hJ:0≤J∧J≤5) (C0:Hid (∀w,Calls Tryz.prog 97 #[.int .i64 b,.int .i64 0] w fun e w'=>e=Ending.returned (.int .i64 x)∧w'=w)) (C1:Hid (∀w,Calls Tryz.prog 97 #[.int .i64 b,.int .i64 1] w fun e w'=>e=Ending.returned (.int .i64 y)∧w'=w)) (CB:Hid (∀w,Calls Tryz.prog 98 #[.int .i64 i] w fun e w'=>e=Ending.returned (.int .i64 J)∧w'=w)) (hh:True):Calls Tryz.prog 46 #[.agg #[.bool true,.bool c,.bool d,.int .i64 i],.int .i64 b] w fun e w'=>e=Ending.returned (.agg #[.bool true,.bool false,.bool d,.int .i64 J])∧Below w.heap.size w w':=by
 go_enter Tryz.func46,Tryz.ntmps46
 go_wp2_with fail
 refine under_name fun wa hwa=>?_
 have P0:=hide (show HasP 59 wa w.heap.size true c d i by rw [hwa];exact (hasP_new _ _ _ _ _ _).next ((Below.refl _ _).alloc (Nat.le_refl _) _))
 have R0:=hide (show HasP 59 wa (w.heap.size+1) false false false 0 by rw [hwa];exact heap_alloc2_new _ _ _)
 have BA:=hide (show Below w.heap.size w wa by rw [hwa];exact ((Below.refl _ w).alloc (Nat.le_refl _) _).alloc (by simp) _)
 clear hwa
 obtain ⟨z,hz⟩:∃z,w.heap.size=z:=⟨_,rfl⟩
 rw [hz] at P0 R0 ⊢
 have HZ:=hide hz
 clear hz
 refine wp_region_one _ _ _ (show _=([_,_,_,_,_,_,_,_,_,_,_,_]++[_])++[_] from rfl) #[.bool false,.bool false,.bool false,.int .i64 0] 59 43 5 (by kernel_rfl) (by kernel_rfl) (by kernel_rfl) (by kernel_rfl) rfl ?_ ?_
 ·intro a w
  set_option maxRecDepth 100000 in
  rfl
 apply Exists.intro
 refine ⟨fun V hV=>?_,?_⟩
 ·have I:=P0.out.next hV
  have i2:=kept_cell I.c2 I.lt
  have i3:=kept_cell I.c3 I.lt
  clear hV I
  haveI:=kept_some V
  repeat (go_big_quiet_step ((first
   |(go_at_call_of 97 (Value.int .i64 0);exact kept_same (C0.out _))
   |(go_at_call_of 97 (Value.int .i64 1);exact kept_same (C1.out _))
   |(go_at_call 98;exact kept_same (CB.out _)))))
  refine wpQuiet_nil ?_
  rfl
 intro g wx bx hg lg
 (try simp only [ES,EC])
 have G1:=hide (show HasP 59 (wx.setRow g #[.bool true,.bool false,.bool d,.int .i64 J]) g true false d J from setRow_heap _ _ _ _ _ _ hg)
 have hne:z+1≠g:=by have:=lt_of_block R0.out;omega
 have hnz:z≠g:=by have:=lt_of_block R0.out;omega
 have P1:=hide (show HasP 59 (wx.setRow g #[.bool true,.bool false,.bool d,.int .i64 J]) z true c d i from (setRow_other _ _ _ _ hnz).trans (P0.out.next bx))
 have R1:=hide (show HasP 59 (wx.setRow g #[.bool true,.bool false,.bool d,.int .i64 J]) (z+1) false false false 0 from (setRow_other _ _ _ _ hne).trans (R0.out.next bx))
 have B1:=hide (below_setRow (bnext BA.out bx) (Nat.le_trans BA.out.size lg) #[.bool true,.bool false,.bool d,.int .i64 J])
 have HG:=hide (show z+1≠g∧w.heap.size≤g from ⟨hne,Nat.le_trans BA.out.size lg⟩)
 have G0:=hide hg
 have HN:=hide hnz
 clear bx hg lg hne hnz BA R0 P0
 simp only [Act.put,List.setIfInBounds_toArray,List.set_cons_succ,List.set_cons_zero]
 refine wpList_store_row rfl 59 (.tmp 5) (.tmp 17) rfl g _ rfl rfl 59 _ G0.out (by kernel_rfl) rfl (by kernel_rfl) ?_
 refine under_list fun wb hwb=>?_
 rw [←hwb] at G1 R1 B1 P1
 clear hwb G0
 simp only [Act.put]
 have z3:=G1.out.frozen 3
 have z2:=G1.out.frozen 2
 have g0:=G1.out.c0
 have g1:=G1.out.c1
 have g2:=G1.out.c2
 have g3:=G1.out.c3
 have p0:=P1.out.c0
 have p1:=P1.out.c1
 have p2:=P1.out.c2
 have hzg:¬z=g:=HN.out
 have hgz:¬g=z:=fun e=>HN.out e.symm
 go_wp2_with (first
  |(refine wpList_load_row rfl 59 (.tmp 5) rfl g rfl _ _ _ _ G1.out Tryz.underlying59 rfl (by kernel_rfl) ?_)
  |(refine wpList_store_row rfl 59 (.tmp 4) (.tmp 42) rfl (z+1) _ rfl rfl 59 _ R1.out (by kernel_rfl) rfl (by kernel_rfl) ?_)
  |(refine bodyPost_ret (results_cell_row rfl _ _ (z+1) 59 _ (0,0) _ rfl (setRow_heap _ _ _ _ _ _ R1.out) Tryz.underlying59 rfl (by kernel_rfl)) rfl ⟨rfl,below_setRow B1.out (by have:=HZ.out;omega) _⟩))
set_option maxHeartbeats 1000000 in
theorem write_on (c d:Bool) (b i J x y:Int) (w:World) (ES:(x==1)=true) (EC:(y==1)=false) (hJ:0≤J∧J≤5) (C0:Hid (∀w,Calls Tryz.prog 97 #[.int .i64 b,.int .i64 0] w fun e w'=>e=Ending.returned (.int .i64 x)∧w'=w)) (C1:Hid (∀w,Calls Tryz.prog 97 #[.int .i64 b,.int .i64 1] w fun e w'=>e=Ending.returned (.int .i64 y)∧w'=w)) (CB:Hid (∀w,Calls Tryz.prog 98 #[.int .i64 i] w fun e w'=>e=Ending.returned (.int .i64 J)∧w'=w)) (hlt:J<5):Calls Tryz.prog 46 #[.agg #[.bool false,.bool c,.bool d,.int .i64 i],.int .i64 b] w fun e w'=>e=Ending.returned (.agg #[.bool true,.bool false,.bool d,.int .i64 (J+1)])∧Below w.heap.size w w':=by
 go_enter Tryz.func46,Tryz.ntmps46
 go_wp2_with fail
 refine under_name fun wa hwa=>?_
 have P0:=hide (show HasP 59 wa w.heap.size false c d i by rw [hwa];exact (hasP_new _ _ _ _ _ _).next ((Below.refl _ _).alloc (Nat.le_refl _) _))
 have R0:=hide (show HasP 59 wa (w.heap.size+1) false false false 0 by rw [hwa];exact heap_alloc2_new _ _ _)
 have BA:=hide (show Below w.heap.size w wa by rw [hwa];exact ((Below.refl _ w).alloc (Nat.le_refl _) _).alloc (by simp) _)
 clear hwa
 obtain ⟨z,hz⟩:∃z,w.heap.size=z:=⟨_,rfl⟩
 rw [hz] at P0 R0 ⊢
 have HZ:=hide hz
 clear hz
 refine wp_region_one _ _ _ (show _=([_,_,_,_,_,_,_,_,_,_,_,_]++[_])++[_] from rfl) #[.bool false,.bool false,.bool false,.int .i64 0] 59 43 5 (by kernel_rfl) (by kernel_rfl) (by kernel_rfl) (by kernel_rfl) rfl ?_ ?_
 ·intro a w
  set_option maxRecDepth 100000 in
  rfl
 apply Exists.intro
 refine ⟨fun V hV=>?_,?_⟩
 ·have I:=P0.out.next hV
  have i2:=kept_cell I.c2 I.lt
  have i3:=kept_cell I.c3 I.lt
  clear hV I
  haveI:=kept_some V
  repeat (go_big_quiet_step ((first
   |(go_at_call_of 97 (Value.int .i64 0);exact kept_same (C0.out _))
   |(go_at_call_of 97 (Value.int .i64 1);exact kept_same (C1.out _))
   |(go_at_call 98;exact kept_same (CB.out _)))))
  refine wpQuiet_nil ?_
  rfl
 intro g wx bx hg lg
 (try simp only [ES,EC])
 have G1:=hide (show HasP 59 (wx.setRow g #[.bool true,.bool false,.bool d,.int .i64 J]) g true false d J from setRow_heap _ _ _ _ _ _ hg)
 have hne:z+1≠g:=by have:=lt_of_block R0.out;omega
 have hnz:z≠g:=by have:=lt_of_block R0.out;omega
 have P1:=hide (show HasP 59 (wx.setRow g #[.bool true,.bool false,.bool d,.int .i64 J]) z false c d i from (setRow_other _ _ _ _ hnz).trans (P0.out.next bx))
 have R1:=hide (show HasP 59 (wx.setRow g #[.bool true,.bool false,.bool d,.int .i64 J]) (z+1) false false false 0 from (setRow_other _ _ _ _ hne).trans (R0.out.next bx))
 have B1:=hide (below_setRow (bnext BA.out bx) (Nat.le_trans BA.out.size lg) #[.bool true,.bool false,.bool d,.int .i64 J])
 have HG:=hide (show z+1≠g∧w.heap.size≤g from ⟨hne,Nat.le_trans BA.out.size lg⟩)
 have G0:=hide hg
 have HN:=hide hnz
 clear bx hg lg hne hnz BA R0 P0
 simp only [Act.put,List.setIfInBounds_toArray,List.set_cons_succ,List.set_cons_zero]
 refine wpList_store_row rfl 59 (.tmp 5) (.tmp 17) rfl g _ rfl rfl 59 _ G0.out (by kernel_rfl) rfl (by kernel_rfl) ?_
 refine under_list fun wb hwb=>?_
 rw [←hwb] at G1 R1 B1 P1
 clear hwb G0
 simp only [Act.put]
 have z3:=G1.out.frozen 3
 have z2:=G1.out.frozen 2
 have g0:=G1.out.c0
 have g1:=G1.out.c1
 have g2:=G1.out.c2
 have g3:=G1.out.c3
 have p0:=P1.out.c0
 have p1:=P1.out.c1
 have p2:=P1.out.c2
 have hzg:¬z=g:=HN.out
 have hgz:¬g=z:=fun e=>HN.out e.symm
 go_wp2_with (first
  |(refine wpList_load_row rfl 59 (.tmp 5) rfl g rfl _ _ _ _ (G1.out.set3 (J+1)) Tryz.underlying59 rfl (by kernel_rfl) ?_)
  |(refine wpList_store_row rfl 59 (.tmp 4) (.tmp 42) rfl (z+1) _ rfl rfl 59 _ ((Below.heap_setCell _ _ _ _ HG.out.1).trans R1.out) (by kernel_rfl) rfl (by kernel_rfl) ?_)
  |(refine bodyPost_ret (results_cell_row rfl _ _ (z+1) 59 _ (0,0) _ rfl (setRow_heap _ _ _ _ _ _ ((Below.heap_setCell _ _ _ _ HG.out.1).trans R1.out)) Tryz.underlying59 rfl (by kernel_rfl)) rfl ⟨rfl,below_setRow (B1.out.setCell (p:=⟨g,3,none⟩) HG.out.2 _) (by have:=HZ.out;omega) _⟩))
set_option maxHeartbeats 1000000 in
theorem write_last (c d:Bool) (b i J x y:Int) (w:World) (ES:(x==1)=true) (EC:(y==1)=false) (hJ:0≤J∧J≤5) (C0:Hid (∀w,Calls Tryz.prog 97 #[.int .i64 b,.int .i64 0] w fun e w'=>e=Ending.returned (.int .i64 x)∧w'=w)) (C1:Hid (∀w,Calls Tryz.prog 97 #[.int .i64 b,.int .i64 1] w fun e w'=>e=Ending.returned (.int .i64 y)∧w'=w)) (CB:Hid (∀w,Calls Tryz.prog 98 #[.int .i64 i] w fun e w'=>e=Ending.returned (.int .i64 J)∧w'=w)) (hlt:5≤J):Calls Tryz.prog 46 #[.agg #[.bool false,.bool c,.bool d,.int .i64 i],.int .i64 b] w fun e w'=>e=Ending.returned (.agg #[.bool true,.bool false,.bool d,.int .i64 5])∧Below w.heap.size w w':=by
 go_enter Tryz.func46,Tryz.ntmps46
 go_wp2_with fail
 refine under_name fun wa hwa=>?_
 have P0:=hide (show HasP 59 wa w.heap.size false c d i by rw [hwa];exact (hasP_new _ _ _ _ _ _).next ((Below.refl _ _).alloc (Nat.le_refl _) _))
 have R0:=hide (show HasP 59 wa (w.heap.size+1) false false false 0 by rw [hwa];exact heap_alloc2_new _ _ _)
 have BA:=hide (show Below w.heap.size w wa by rw [hwa];exact ((Below.refl _ w).alloc (Nat.le_refl _) _).alloc (by simp) _)
 clear hwa
 obtain ⟨z,hz⟩:∃z,w.heap.size=z:=⟨_,rfl⟩
 rw [hz] at P0 R0 ⊢
 have HZ:=hide hz
 clear hz
 refine wp_region_one _ _ _ (show _=([_,_,_,_,_,_,_,_,_,_,_,_]++[_])++[_] from rfl) #[.bool false,.bool false,.bool false,.int .i64 0] 59 43 5 (by kernel_rfl) (by kernel_rfl) (by kernel_rfl) (by kernel_rfl) rfl ?_ ?_
 ·intro a w
  set_option maxRecDepth 100000 in
  rfl
 apply Exists.intro
 refine ⟨fun V hV=>?_,?_⟩
 ·have I:=P0.out.next hV
  have i2:=kept_cell I.c2 I.lt
  have i3:=kept_cell I.c3 I.lt
  clear hV I
  haveI:=kept_some V
  repeat (go_big_quiet_step ((first
   |(go_at_call_of 97 (Value.int .i64 0);exact kept_same (C0.out _))
   |(go_at_call_of 97 (Value.int .i64 1);exact kept_same (C1.out _))
   |(go_at_call 98;exact kept_same (CB.out _)))))
  refine wpQuiet_nil ?_
  rfl
 intro g wx bx hg lg
 (try simp only [ES,EC])
 have G1:=hide (show HasP 59 (wx.setRow g #[.bool true,.bool false,.bool d,.int .i64 J]) g true false d J from setRow_heap _ _ _ _ _ _ hg)
 have hne:z+1≠g:=by have:=lt_of_block R0.out;omega
 have hnz:z≠g:=by have:=lt_of_block R0.out;omega
 have P1:=hide (show HasP 59 (wx.setRow g #[.bool true,.bool false,.bool d,.int .i64 J]) z false c d i from (setRow_other _ _ _ _ hnz).trans (P0.out.next bx))
 have R1:=hide (show HasP 59 (wx.setRow g #[.bool true,.bool false,.bool d,.int .i64 J]) (z+1) false false false 0 from (setRow_other _ _ _ _ hne).trans (R0.out.next bx))
 have B1:=hide (below_setRow (bnext BA.out bx) (Nat.le_trans BA.out.size lg) #[.bool true,.bool false,.bool d,.int .i64 J])
 have HG:=hide (show z+1≠g∧w.heap.size≤g from ⟨hne,Nat.le_trans BA.out.size lg⟩)
 have G0:=hide hg
 have HN:=hide hnz
 clear bx hg lg hne hnz BA R0 P0
 simp only [Act.put,List.setIfInBounds_toArray,List.set_cons_succ,List.set_cons_zero]
 refine wpList_store_row rfl 59 (.tmp 5) (.tmp 17) rfl g _ rfl rfl 59 _ G0.out (by kernel_rfl) rfl (by kernel_rfl) ?_
 refine under_list fun wb hwb=>?_
 rw [←hwb] at G1 R1 B1 P1
 clear hwb G0
 simp only [Act.put]
 have z3:=G1.out.frozen 3
 have z2:=G1.out.frozen 2
 have g0:=G1.out.c0
 have g1:=G1.out.c1
 have g2:=G1.out.c2
 have g3:=G1.out.c3
 have p0:=P1.out.c0
 have p1:=P1.out.c1
 have p2:=P1.out.c2
 have hzg:¬z=g:=HN.out
 have hgz:¬g=z:=fun e=>HN.out e.symm
 go_wp2_with (first
  |(refine wpList_load_row rfl 59 (.tmp 5) rfl g rfl _ _ _ _ (G1.out.set3 5) Tryz.underlying59 rfl (by kernel_rfl) ?_)
  |(refine wpList_store_row rfl 59 (.tmp 4) (.tmp 42) rfl (z+1) _ rfl rfl 59 _ ((Below.heap_setCell _ _ _ _ HG.out.1).trans R1.out) (by kernel_rfl) rfl (by kernel_rfl) ?_)
  |(refine bodyPost_ret (results_cell_row rfl _ _ (z+1) 59 _ (0,0) _ rfl (setRow_heap _ _ _ _ _ _ ((Below.heap_setCell _ _ _ _ HG.out.1).trans R1.out)) Tryz.underlying59 rfl (by kernel_rfl)) rfl ⟨rfl,below_setRow (B1.out.setCell (p:=⟨g,3,none⟩) HG.out.2 _) (by have:=HZ.out;omega) _⟩))
theorem write_any (s c d:Bool) (i b:Int) (w:World):Calls Tryz.prog 46 #[.agg #[.bool s,.bool c,.bool d,.int .i64 i],.int .i64 b] w fun e w'=>e=Ending.returned (.agg #[.bool (selB b),.bool (clrB b),.bool (nxD c d (clrB b)),.int .i64 (nxI s (selB b) (clrB b) i)])∧Below w.heap.size w w':=by
 have hJ:=bndI_in i
 have C0:=hide (fun w=>bit_any b 0 w)
 have C1:=hide (fun w=>bit_any b 1 w)
 have CB:=hide (fun w=>bounded_any i w)
 have es:(bitOf b 0==1)=selB b:=rfl
 have ec:(bitOf b 1==1)=clrB b:=rfl
 unfold nxD nxI
 revert es ec
 generalize selB b=S
 generalize clrB b=C
 intro es ec
 cases C
 ·cases S
  ·exact write_off s c d b i _ _ _ w es ec hJ C0 C1 CB trivial
  ·cases s
   ·by_cases h:bndI i<5
    ·have e:min (bndI i+1) 5=bndI i+1:=by omega
     simp only [Bool.not_false,Bool.and_true,if_true,Bool.false_eq_true,if_false,Bool.false_and,e]
     exact write_on c d b i _ _ _ w es ec hJ C0 C1 CB h
    ·have e:min (bndI i+1) 5=5:=by omega
     simp only [Bool.not_false,Bool.and_true,if_true,Bool.false_eq_true,if_false,Bool.false_and,e]
     exact write_last c d b i _ _ _ w es ec hJ C0 C1 CB (by omega)
   ·exact write_still c d b i _ _ _ w es ec hJ C0 C1 CB trivial
 ·cases c
  ·exact write_turn S s d b i _ _ _ w es ec hJ C0 C1 CB trivial
  ·exact write_clr S s d b i _ _ _ w es ec hJ C0 C1 CB trivial
end Go.Proofs.YtnllcknfmciebaaGreatDoor.J23
