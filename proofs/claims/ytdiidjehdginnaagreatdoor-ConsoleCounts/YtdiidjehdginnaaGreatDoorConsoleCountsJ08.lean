/- Texts put together. -/
import Derived.Test.YtdiidjehdginnaaGreatDoorConsoleCountsJ02
import Derived.Test.YtdiidjehdginnaaGreatDoorConsoleCountsJ01
import Derived.Test.YtdiidjehdginnaaGreatDoorConsoleCountsJ07
import Derived.Test.YtdiidjehdginnaaGreatDoorConsoleCountsJ05
import Derived.Test.YtdiidjehdginnaaGreatDoorConsoleCountsJ03
import Derived.Deep.CutRange
namespace Go.Proofs.YtdiidjehdginnaaGreatDoor.J23
set_option maxHeartbeats 1000000
set_option maxRecDepth 20000
open Go.RowKit
set_option linter.unusedVariables false
set_option linter.unusedSimpArgs false
variable {c d s:Bool} {i:Int} {b:Nat} {t:TypeId} {w:World}
theorem wpQuiet_mid {P:Program} {ops:Array Oper} {C:World→Prop} {Q:Act→Prop} {a:Act} {o:Oper} {rest:List Oper} (hw:Region.wanted o (yielded ops a.tmps)=true) (ty:TypeId) (x:Operand) (ho:o.op=.load ty x)
  (b off:Nat) (hx:a.eval x=.pointer (some ⟨b,off,none⟩)) (cs:Array Value) (d:TypeDesc) (hc:∀w,C w→w.rangeAt b off cs.toList)
  (hu:P.underlying ty=some d) (hd:d.isRow=true) (hi:(P.info? ty).map (·.size)=some cs.size)
  (h:wpQuiet P ops C Q rest (a.put o.dst (.agg cs))):wpQuiet P ops C Q (o::rest) a:=by
 unfold wpQuiet;rw [if_pos hw];refine ⟨.agg cs,fun w hC=>?_,h⟩;unfold Oper.quietAt execOp;have k:=run_loadVar_mid (P:=P) w b off ty cs.toList d (hc w hC) hu hd (by rw [Array.length_toList];exact hi);simp only [ho,hx,Instr.loadAt,Instr.sureAddr,Sem.run_bind,Sem.run_pure,Result.andThen_ok,k];exact ⟨rfl,rfl⟩
def HasP (t:TypeId) (w:World) (b:Nat) (s c d:Bool) (i:Int):Prop:=w.heap[b]? = some (.cells #[.bool s,.bool c,.bool d,.int .i64 i] t (0,0))
theorem HasP.lt (h:HasP t w b s c d i):b<w.heap.size:=lt_of_block h
theorem HasP.next (h:HasP t w b s c d i) {w':World} (k:Below w.heap.size w w'):HasP t w' b s c d i:=(k.block b (lt_of_block h)).trans h
theorem HasP.c0 (h:HasP t w b s c d i):w.cell? ⟨b,0,none⟩=some (.bool s):=(cell_of_row w b 0 _ _ _ h).trans rfl
theorem HasP.c1 (h:HasP t w b s c d i):w.cell? ⟨b,1,none⟩=some (.bool c):=(cell_of_row w b 1 _ _ _ h).trans rfl
theorem HasP.c2 (h:HasP t w b s c d i):w.cell? ⟨b,2,none⟩=some (.bool d):=(cell_of_row w b 2 _ _ _ h).trans rfl
theorem HasP.c3 (h:HasP t w b s c d i):w.cell? ⟨b,3,none⟩=some (.int .i64 i):=(cell_of_row w b 3 _ _ _ h).trans rfl
theorem HasP.frozen (h:HasP t w b s c d i) (j:Nat):w.frozen? ⟨b,j,none⟩=false:=frozen_of_row w b j _ _ h
theorem HasP.set2 (h:HasP t w b s c d i) (x:Bool):HasP t (w.setCell ⟨b,2,none⟩ (.bool x)) b s c x i:=heap_setCell_same w b 2 _ _ _ h
theorem HasP.set3 (h:HasP t w b s c d i) (x:Int):HasP t (w.setCell ⟨b,3,none⟩ (.int .i64 x)) b s c d x:=heap_setCell_same w b 3 _ _ _ h
theorem zee (t:TypeId) (w:World) (s c d:Bool) (i:Int):HasP t (w.alloc (.cells #[.bool s,.bool c,.bool d,.int .i64 i] t)) w.heap.size s c d i:=heap_alloc_new _ _
def pc (K:Nat→Int) (X:Nat→Bool):Nat→Value:=fun j=>if j%2=0 then .int .i64 (K (j/2)) else .bool (X (j/2))
theorem zyo (K:Nat→Int) (X:Nat→Bool) (n:Nat):rowF (fun j=>pc K X (n*2+j)) 2=#[.int .i64 (K n),.bool (X n)]:=by
 show (([0,1]:List Nat).map fun j=>pc K X (n*2+j)).toArray=_;simp [pc,show (n*2+1)/2=n by omega]
def bndI (i:Int):Int:=if i<0∨5<i then 5 else i
theorem zyp (i:Int):0≤bndI i∧bndI i≤5:=by unfold bndI;split<;>omega
theorem bounded_any (i:Int) (w:World):Calls Tryz.prog 248 #[.int .i64 i] w fun e w'=>e=Ending.returned (.int .i64 (bndI i))∧w'=w:=by
 unfold bndI
 by_cases h0:i<0
 ·rw [if_pos (.inl h0)];go_enter Tryz.func248,Tryz.ntmps248;go_wp2;go_ret;exact ⟨rfl,rfl⟩
 ·by_cases h5:5<i
  ·rw [if_pos (.inr h5)];go_enter Tryz.func248,Tryz.ntmps248;go_wp2;go_ret;exact ⟨rfl,rfl⟩
  ·rw [if_neg (by omega)];go_enter Tryz.func248,Tryz.ntmps248;go_wp2;go_ret;exact ⟨rfl,rfl⟩
theorem zAV (k:Int) (w:World):Calls Tryz.prog 258 #[.int .i64 k,.int .i64 0] w fun e w'=>e=Ending.returned (.int .i64 (k%65536/1%16))∧w'=w:=by
 have HM:=hide (zcX (k%65536/1));go_enter Tryz.func258,Tryz.ntmps258;go_wp2_with (first|(go_at_call 86;refine (zaU _ _).mono ?_;rintro e w' ⟨rfl,hw⟩;subst w'));go_ret;exact ⟨zat (by first|exact HM.out|simpa using HM.out),rfl⟩
theorem zAW (k:Int) (w:World):Calls Tryz.prog 258 #[.int .i64 k,.int .i64 4] w fun e w'=>e=Ending.returned (.int .i64 (k%65536/16%16))∧w'=w:=by
 have HM:=hide (zcX (k%65536/16));go_enter Tryz.func258,Tryz.ntmps258;go_wp2_with (first|(go_at_call 86;refine (zaU _ _).mono ?_;rintro e w' ⟨rfl,hw⟩;subst w'));go_ret;exact ⟨zat (by first|exact HM.out|simpa using HM.out),rfl⟩
theorem zAX (k:Int) (w:World):Calls Tryz.prog 258 #[.int .i64 k,.int .i64 8] w fun e w'=>e=Ending.returned (.int .i64 (k%65536/256%16))∧w'=w:=by
 have HM:=hide (zcX (k%65536/256));go_enter Tryz.func258,Tryz.ntmps258;go_wp2_with (first|(go_at_call 86;refine (zaU _ _).mono ?_;rintro e w' ⟨rfl,hw⟩;subst w'));go_ret;exact ⟨zat (by first|exact HM.out|simpa using HM.out),rfl⟩
def zmq (s d:Bool) (k:Int) (x:Bool):Int:=if d&&x then (if s then 15 else k%65536/256%16) else if s then k%65536/16%16 else k%65536/1%16
theorem zkd (s d:Bool) (k:Int) (x:Bool):0≤zmq s d k x∧zmq s d k x<16:=by
 unfold zmq;split
 ·split<;>omega
 ·split<;>omega
theorem zrS (s c d:Bool) (i k:Int) (x:Bool) (w:World):Calls Tryz.prog 228 #[.agg #[.bool s,.bool c,.bool d,.int .i64 i],.agg #[.int .i64 k,.bool x]] w fun e w'=>e=Ending.returned (.int .i64 (zmq s d k x))∧Below w.heap.size w w':=by
 cases s<;>cases d<;>cases x<;>simp only [zmq,Bool.and_true,Bool.and_false,Bool.true_and,Bool.false_and,if_true,if_false,Bool.false_eq_true]
 all_goals
  go_enter Tryz.func228,Tryz.ntmps228
  go_wp2_with (first
   |(go_at_call_of 258 (Value.int .i64 0);refine (zAV _ _).mono ?_;rintro e w' ⟨rfl,hw⟩;subst w')
   |(go_at_call_of 258 (Value.int .i64 4);refine (zAW _ _).mono ?_;rintro e w' ⟨rfl,hw⟩;subst w')
   |(go_at_call_of 258 (Value.int .i64 8);refine (zAX _ _).mono ?_;rintro e w' ⟨rfl,hw⟩;subst w'))
  go_ret;exact ⟨by first|rfl|exact zat (by omega),((Below.refl _ w).alloc (Nat.le_refl _) _).alloc (by simp) _⟩
def preOf (s d:Bool) (i:Int) (K:Nat→Int) (X:Nat→Bool):Int:=if 0≤i∧i<5 then zmq s d (K i.toNat) (X i.toNat) else 0
theorem preOf_in (s d:Bool) (i:Int) (K:Nat→Int) (X:Nat→Bool):0≤preOf s d i K X∧preOf s d i K X<16:=by
 unfold preOf;split
 ·exact zkd _ _ _ _
 ·omega
def rdOf (s d:Bool) (i:Int) (K:Nat→Int) (X:Nat→Bool) (ab:Bool):Int:=(if ab then 191 else 255)-preOf s d i K X
theorem znA (ab:Bool):ziM 176 6 (!ab)=if ab then 176 else 240:=by cases ab<;>decide
theorem zyq (s c d:Bool) (n:Nat) (K:Nat→Int) (X:Nat→Bool) (ab:Bool) (p:Int) (hn:n<5) (hp:Hid (zmq s d (K n) (X n)=p)) (p0:0≤p) (p1:p<16) (w:World):
  Calls Tryz.prog 178 #[.agg #[.bool s,.bool c,.bool d,.int .i64 n],.agg (rowF (pc K X) 10),.bool ab] w fun e w'=>e=Ending.returned (.int .i64 ((if ab then 191 else 255)-p))∧Below w.heap.size w w':=by
 have KA:=hide (fun w=>zrS s c d n (K n) (X n) w);rw [hp.out] at KA;have KP:=hide (fun w=>zgB 176 6 (!ab) w);rw [znA] at KP;have HE:Hid ((if ab then (176:Int) else 240)+15-p=(if ab then (191:Int) else 255)-p):=hide (by cases ab<;>simp);have hq:0≤(if ab then (176:Int) else 240)∧(if ab then (176:Int) else 240)≤240:=by cases ab<;>simp
 generalize (if ab then (176:Int) else 240)=q at *;generalize (if ab then (191:Int) else 255)=r at *;go_enter Tryz.func178,Tryz.ntmps178;go_wp2_with fail;refine under_name fun wa hwa=>?_
 have P0:HasP 55 wa w.heap.size s c d n:=by rw [hwa];exact (zee _ _ _ _ _ _).next ((Below.refl _ _).alloc (Nat.le_refl _) _)
 have Q0:HasF 58 wa (w.heap.size+1) 10 (pc K X):=by rw [hwa];exact zcn _ _ _ _ _
 have BA:Hid (Below w.heap.size w wa):=hide (by rw [hwa];exact ((Below.refl _ w).alloc (Nat.le_refl _) _).alloc (by simp) _);have i0:=zah P0.c0 P0.lt;have i1:=zah P0.c1 P0.lt;have i2:=zah P0.c2 P0.lt;have i3:=zah P0.c3 P0.lt;have RQ:=hide (Q0.range (n*2) 2 (by omega));rw [zyo] at RQ;have HQ:=hide Q0.lt;clear hwa P0 Q0;haveI:=zax wa;refine zbn (by kernel_rfl) (by kernel_rfl) ?_
 repeat (first
  |(refine wpQuiet_mid rfl 57 (.tmp 19) rfl (w.heap.size+1) (n*2) rfl #[.int .i64 (K n),.bool (X n)] _ (fun w' ⟨x,hx⟩=>by rw [hx];intro j v hv;rw [x.cell (w.heap.size+1) _ HQ.out];exact RQ.out j v hv) Tryz.underlying57 rfl (by kernel_rfl) ?_;simp only [Act.put,List.setIfInBounds_toArray,List.set_cons_succ,List.set_cons_zero])
  |go_big_quiet_step ((go_at_call 228;exact zaL (KA.out _))))
 refine wpQuiet_nil ?_;rintro _ ⟨wk,rfl⟩;go_wp2_with (first|(go_at_call 152;refine (KP.out _).mono ?_;rintro e w2 ⟨rfl,b2⟩));go_ret;exact ⟨zat HE.out,zaz (zaz BA.out wk.below) b2⟩
theorem zvq (s c d:Bool) (i:Int) (K:Nat→Int) (X:Nat→Bool) (ab:Bool) (hi:i<0∨5≤i) (w:World):
  Calls Tryz.prog 178 #[.agg #[.bool s,.bool c,.bool d,.int .i64 i],.agg (rowF (pc K X) 10),.bool ab] w fun e w'=>e=Ending.returned (.int .i64 (if ab then 191 else 255))∧Below w.heap.size w w':=by
 have KP:=hide (fun w=>zgB 176 6 (!ab) w);rw [znA] at KP;have HE:Hid ((if ab then (176:Int) else 240)+15=(if ab then (191:Int) else 255)):=hide (by cases ab<;>simp);have hq:0≤(if ab then (176:Int) else 240)∧(if ab then (176:Int) else 240)≤240:=by cases ab<;>simp
 generalize (if ab then (176:Int) else 240)=q at *;generalize (if ab then (191:Int) else 255)=r at *;generalize rowF (pc K X) 10=R at *;rcases hi with hi|hi
 all_goals
  go_enter Tryz.func178,Tryz.ntmps178;go_wp2_with (first|(go_at_call 152;refine (KP.out _).mono ?_;rintro e w2 ⟨rfl,b2⟩));go_ret;exact ⟨zat (by have:=HE.out;omega),zaz (((Below.refl _ w).alloc (Nat.le_refl _) _).alloc (by simp) _) b2⟩
theorem read_any (s c d:Bool) (i:Int) (K:Nat→Int) (X:Nat→Bool) (ab:Bool) (w:World):
  Calls Tryz.prog 178 #[.agg #[.bool s,.bool c,.bool d,.int .i64 i],.agg (rowF (pc K X) 10),.bool ab] w fun e w'=>e=Ending.returned (.int .i64 (rdOf s d i K X ab))∧Below w.heap.size w w':=by
 unfold rdOf preOf
 by_cases h:0≤i∧i<5
 ·rw [if_pos h];obtain ⟨n,rfl⟩:=Int.eq_ofNat_of_zero_le h.1;exact zyq s c d n K X ab _ (by omega) (hide rfl) (zkd _ _ _ _).1 (zkd _ _ _ _).2 w
 ·rw [if_neg h,Int.sub_zero];exact zvq s c d i K X ab (by omega) w
def nxD (c d C:Bool):Bool:=if C&&!c then !d else d
def nxI (s S C:Bool) (i:Int):Int:=if C then 0 else if S&&!s then min (bndI i+1) 5 else bndI i
def selB (b:Int):Bool:=zaV b 0==1
def clrB (b:Int):Bool:=zaV b 1==1
theorem zrT (S s d:Bool) (b i J x y:Int) (w:World) (ES:(x==1)=S) (EC:(y==1)=true) (hJ:0≤J∧J≤5) (C0:Hid (∀w,Calls Tryz.prog 68 #[.int .i64 b,.int .i64 0] w fun e w'=>e=Ending.returned (.int .i64 x)∧w'=w)) (C1:Hid (∀w,Calls Tryz.prog 68 #[.int .i64 b,.int .i64 1] w fun e w'=>e=Ending.returned (.int .i64 y)∧w'=w)) (CB:Hid (∀w,Calls Tryz.prog 248 #[.int .i64 i] w fun e w'=>e=Ending.returned (.int .i64 J)∧w'=w)) (hh:True):Calls Tryz.prog 212 #[.agg #[.bool s,.bool true,.bool d,.int .i64 i],.int .i64 b] w fun e w'=>e=Ending.returned (.agg #[.bool S,.bool true,.bool d,.int .i64 0])∧Below w.heap.size w w':=by
 go_enter Tryz.func212,Tryz.ntmps212;go_wp2_with fail;refine under_name fun wa hwa=>?_
 have P0:=hide (show HasP 55 wa w.heap.size s true d i by rw [hwa];exact (zee _ _ _ _ _ _).next ((Below.refl _ _).alloc (Nat.le_refl _) _));have R0:=hide (show HasP 55 wa (w.heap.size+1) false false false 0 by rw [hwa];exact heap_alloc2_new _ _ _);have BA:=hide (show Below w.heap.size w wa by rw [hwa];exact ((Below.refl _ w).alloc (Nat.le_refl _) _).alloc (by simp) _);clear hwa;obtain ⟨z,hz⟩:∃z,w.heap.size=z:=⟨_,rfl⟩
 rw [hz] at P0 R0 ⊢;have HZ:=hide hz;clear hz;refine zbW _ _ _ (show _=([_,_,_,_,_,_,_,_,_,_,_,_]++[_])++[_] from rfl) #[.bool false,.bool false,.bool false,.int .i64 0] 55 43 5 (by kernel_rfl) (by kernel_rfl) (by kernel_rfl) (by kernel_rfl) rfl ?_ ?_
 ·intro a w
  set_option maxRecDepth 100000 in
  rfl
 apply Exists.intro;refine ⟨fun V hV=>?_,?_⟩
 ·have I:=P0.out.next hV;have i2:=zah I.c2 I.lt;have i3:=zah I.c3 I.lt;clear hV I;haveI:=zax V
  repeat (go_big_quiet_step ((first
   |(go_at_call_of 68 (Value.int .i64 0);exact zaF (C0.out _))
   |(go_at_call_of 68 (Value.int .i64 1);exact zaF (C1.out _))
   |(go_at_call 248;exact zaF (CB.out _)))))
  refine wpQuiet_nil ?_;rfl
 intro g wx bx hg lg
 (try simp only [ES,EC])
 have G1:=hide (show HasP 55 (wx.setRow g #[.bool S,.bool true,.bool d,.int .i64 J]) g S true d J from setRow_heap _ _ _ _ _ _ hg);have hne:z+1≠g:=by have:=lt_of_block R0.out;omega
 have hnz:z≠g:=by have:=lt_of_block R0.out;omega
 have P1:=hide (show HasP 55 (wx.setRow g #[.bool S,.bool true,.bool d,.int .i64 J]) z s true d i from (setRow_other _ _ _ _ hnz).trans (P0.out.next bx));have R1:=hide (show HasP 55 (wx.setRow g #[.bool S,.bool true,.bool d,.int .i64 J]) (z+1) false false false 0 from (setRow_other _ _ _ _ hne).trans (R0.out.next bx));have B1:=hide (below_setRow (zaz BA.out bx) (Nat.le_trans BA.out.size lg) #[.bool S,.bool true,.bool d,.int .i64 J]);have HG:=hide (show z+1≠g∧w.heap.size≤g from ⟨hne,Nat.le_trans BA.out.size lg⟩);have G0:=hide hg;have HN:=hide hnz;clear bx hg lg hne hnz BA R0 P0;simp only [Act.put,List.setIfInBounds_toArray,List.set_cons_succ,List.set_cons_zero];refine wpList_store_row rfl 55 (.tmp 5) (.tmp 17) rfl g _ rfl rfl 55 _ G0.out (by kernel_rfl) rfl (by kernel_rfl) ?_;refine zaj fun wb hwb=>?_
 rw [←hwb] at G1 R1 B1 P1;clear hwb G0;simp only [Act.put];have z3:=G1.out.frozen 3;have z2:=G1.out.frozen 2;have g0:=G1.out.c0;have g1:=G1.out.c1;have g2:=G1.out.c2;have g3:=G1.out.c3;have p0:=P1.out.c0;have p1:=P1.out.c1;have p2:=P1.out.c2;have hzg:¬z=g:=HN.out;have hgz:¬g=z:=fun e=>HN.out e.symm
 go_wp2_with (first
  |(refine wpList_load_row rfl 55 (.tmp 5) rfl g rfl _ _ _ _ (G1.out.set3 0) Tryz.underlying55 rfl (by kernel_rfl) ?_)
  |(refine wpList_store_row rfl 55 (.tmp 4) (.tmp 42) rfl (z+1) _ rfl rfl 55 _ ((Below.heap_setCell _ _ _ _ HG.out.1).trans R1.out) (by kernel_rfl) rfl (by kernel_rfl) ?_)
  |(refine bodyPost_ret (results_cell_row rfl _ _ (z+1) 55 _ (0,0) _ rfl (setRow_heap _ _ _ _ _ _ ((Below.heap_setCell _ _ _ _ HG.out.1).trans R1.out)) Tryz.underlying55 rfl (by kernel_rfl)) rfl ⟨rfl,below_setRow (B1.out.setCell (p:=⟨g,3,none⟩) HG.out.2 _) (by have:=HZ.out;omega) _⟩))
theorem zpd (S s d:Bool) (b i J x y:Int) (w:World) (ES:(x==1)=S) (EC:(y==1)=true) (hJ:0≤J∧J≤5) (C0:Hid (∀w,Calls Tryz.prog 68 #[.int .i64 b,.int .i64 0] w fun e w'=>e=Ending.returned (.int .i64 x)∧w'=w)) (C1:Hid (∀w,Calls Tryz.prog 68 #[.int .i64 b,.int .i64 1] w fun e w'=>e=Ending.returned (.int .i64 y)∧w'=w)) (CB:Hid (∀w,Calls Tryz.prog 248 #[.int .i64 i] w fun e w'=>e=Ending.returned (.int .i64 J)∧w'=w)) (hh:True):Calls Tryz.prog 212 #[.agg #[.bool s,.bool false,.bool d,.int .i64 i],.int .i64 b] w fun e w'=>e=Ending.returned (.agg #[.bool S,.bool true,.bool (!d),.int .i64 0])∧Below w.heap.size w w':=by
 go_enter Tryz.func212,Tryz.ntmps212;go_wp2_with fail;refine under_name fun wa hwa=>?_
 have P0:=hide (show HasP 55 wa w.heap.size s false d i by rw [hwa];exact (zee _ _ _ _ _ _).next ((Below.refl _ _).alloc (Nat.le_refl _) _));have R0:=hide (show HasP 55 wa (w.heap.size+1) false false false 0 by rw [hwa];exact heap_alloc2_new _ _ _);have BA:=hide (show Below w.heap.size w wa by rw [hwa];exact ((Below.refl _ w).alloc (Nat.le_refl _) _).alloc (by simp) _);clear hwa;obtain ⟨z,hz⟩:∃z,w.heap.size=z:=⟨_,rfl⟩
 rw [hz] at P0 R0 ⊢;have HZ:=hide hz;clear hz;refine zbW _ _ _ (show _=([_,_,_,_,_,_,_,_,_,_,_,_]++[_])++[_] from rfl) #[.bool false,.bool false,.bool false,.int .i64 0] 55 43 5 (by kernel_rfl) (by kernel_rfl) (by kernel_rfl) (by kernel_rfl) rfl ?_ ?_
 ·intro a w
  set_option maxRecDepth 100000 in
  rfl
 apply Exists.intro;refine ⟨fun V hV=>?_,?_⟩
 ·have I:=P0.out.next hV;have i2:=zah I.c2 I.lt;have i3:=zah I.c3 I.lt;clear hV I;haveI:=zax V
  repeat (go_big_quiet_step ((first
   |(go_at_call_of 68 (Value.int .i64 0);exact zaF (C0.out _))
   |(go_at_call_of 68 (Value.int .i64 1);exact zaF (C1.out _))
   |(go_at_call 248;exact zaF (CB.out _)))))
  refine wpQuiet_nil ?_;rfl
 intro g wx bx hg lg
 (try simp only [ES,EC])
 have G1:=hide (show HasP 55 (wx.setRow g #[.bool S,.bool true,.bool d,.int .i64 J]) g S true d J from setRow_heap _ _ _ _ _ _ hg);have hne:z+1≠g:=by have:=lt_of_block R0.out;omega
 have hnz:z≠g:=by have:=lt_of_block R0.out;omega
 have P1:=hide (show HasP 55 (wx.setRow g #[.bool S,.bool true,.bool d,.int .i64 J]) z s false d i from (setRow_other _ _ _ _ hnz).trans (P0.out.next bx));have R1:=hide (show HasP 55 (wx.setRow g #[.bool S,.bool true,.bool d,.int .i64 J]) (z+1) false false false 0 from (setRow_other _ _ _ _ hne).trans (R0.out.next bx));have B1:=hide (below_setRow (zaz BA.out bx) (Nat.le_trans BA.out.size lg) #[.bool S,.bool true,.bool d,.int .i64 J]);have HG:=hide (show z+1≠g∧w.heap.size≤g from ⟨hne,Nat.le_trans BA.out.size lg⟩);have G0:=hide hg;have HN:=hide hnz;clear bx hg lg hne hnz BA R0 P0;simp only [Act.put,List.setIfInBounds_toArray,List.set_cons_succ,List.set_cons_zero];refine wpList_store_row rfl 55 (.tmp 5) (.tmp 17) rfl g _ rfl rfl 55 _ G0.out (by kernel_rfl) rfl (by kernel_rfl) ?_;refine zaj fun wb hwb=>?_
 rw [←hwb] at G1 R1 B1 P1;clear hwb G0;simp only [Act.put];have z3:=G1.out.frozen 3;have z2:=G1.out.frozen 2;have g0:=G1.out.c0;have g1:=G1.out.c1;have g2:=G1.out.c2;have g3:=G1.out.c3;have p0:=P1.out.c0;have p1:=P1.out.c1;have p2:=P1.out.c2;have hzg:¬z=g:=HN.out;have hgz:¬g=z:=fun e=>HN.out e.symm
 go_wp2_with (first
  |(refine wpList_load_row rfl 55 (.tmp 5) rfl g rfl _ _ _ _ ((G1.out.set3 0).set2 (!d)) Tryz.underlying55 rfl (by kernel_rfl) ?_)
  |(refine wpList_store_row rfl 55 (.tmp 4) (.tmp 42) rfl (z+1) _ rfl rfl 55 _ ((Below.heap_setCell _ _ _ _ HG.out.1).trans ((Below.heap_setCell _ _ _ _ HG.out.1).trans R1.out)) (by kernel_rfl) rfl (by kernel_rfl) ?_)
  |(refine bodyPost_ret (results_cell_row rfl _ _ (z+1) 55 _ (0,0) _ rfl (setRow_heap _ _ _ _ _ _ ((Below.heap_setCell _ _ _ _ HG.out.1).trans ((Below.heap_setCell _ _ _ _ HG.out.1).trans R1.out))) Tryz.underlying55 rfl (by kernel_rfl)) rfl ⟨rfl,below_setRow ((B1.out.setCell (p:=⟨g,3,none⟩) HG.out.2 _).setCell (p:=⟨g,2,none⟩) HG.out.2 _) (by have:=HZ.out;omega) _⟩))
theorem zrU (s c d:Bool) (b i J x y:Int) (w:World) (ES:(x==1)=false) (EC:(y==1)=false) (hJ:0≤J∧J≤5) (C0:Hid (∀w,Calls Tryz.prog 68 #[.int .i64 b,.int .i64 0] w fun e w'=>e=Ending.returned (.int .i64 x)∧w'=w)) (C1:Hid (∀w,Calls Tryz.prog 68 #[.int .i64 b,.int .i64 1] w fun e w'=>e=Ending.returned (.int .i64 y)∧w'=w)) (CB:Hid (∀w,Calls Tryz.prog 248 #[.int .i64 i] w fun e w'=>e=Ending.returned (.int .i64 J)∧w'=w)) (hh:True):Calls Tryz.prog 212 #[.agg #[.bool s,.bool c,.bool d,.int .i64 i],.int .i64 b] w fun e w'=>e=Ending.returned (.agg #[.bool false,.bool false,.bool d,.int .i64 J])∧Below w.heap.size w w':=by
 go_enter Tryz.func212,Tryz.ntmps212;go_wp2_with fail;refine under_name fun wa hwa=>?_
 have P0:=hide (show HasP 55 wa w.heap.size s c d i by rw [hwa];exact (zee _ _ _ _ _ _).next ((Below.refl _ _).alloc (Nat.le_refl _) _));have R0:=hide (show HasP 55 wa (w.heap.size+1) false false false 0 by rw [hwa];exact heap_alloc2_new _ _ _);have BA:=hide (show Below w.heap.size w wa by rw [hwa];exact ((Below.refl _ w).alloc (Nat.le_refl _) _).alloc (by simp) _);clear hwa;obtain ⟨z,hz⟩:∃z,w.heap.size=z:=⟨_,rfl⟩
 rw [hz] at P0 R0 ⊢;have HZ:=hide hz;clear hz;refine zbW _ _ _ (show _=([_,_,_,_,_,_,_,_,_,_,_,_]++[_])++[_] from rfl) #[.bool false,.bool false,.bool false,.int .i64 0] 55 43 5 (by kernel_rfl) (by kernel_rfl) (by kernel_rfl) (by kernel_rfl) rfl ?_ ?_
 ·intro a w
  set_option maxRecDepth 100000 in
  rfl
 apply Exists.intro;refine ⟨fun V hV=>?_,?_⟩
 ·have I:=P0.out.next hV;have i2:=zah I.c2 I.lt;have i3:=zah I.c3 I.lt;clear hV I;haveI:=zax V
  repeat (go_big_quiet_step ((first
   |(go_at_call_of 68 (Value.int .i64 0);exact zaF (C0.out _))
   |(go_at_call_of 68 (Value.int .i64 1);exact zaF (C1.out _))
   |(go_at_call 248;exact zaF (CB.out _)))))
  refine wpQuiet_nil ?_;rfl
 intro g wx bx hg lg
 (try simp only [ES,EC])
 have G1:=hide (show HasP 55 (wx.setRow g #[.bool false,.bool false,.bool d,.int .i64 J]) g false false d J from setRow_heap _ _ _ _ _ _ hg);have hne:z+1≠g:=by have:=lt_of_block R0.out;omega
 have hnz:z≠g:=by have:=lt_of_block R0.out;omega
 have P1:=hide (show HasP 55 (wx.setRow g #[.bool false,.bool false,.bool d,.int .i64 J]) z s c d i from (setRow_other _ _ _ _ hnz).trans (P0.out.next bx));have R1:=hide (show HasP 55 (wx.setRow g #[.bool false,.bool false,.bool d,.int .i64 J]) (z+1) false false false 0 from (setRow_other _ _ _ _ hne).trans (R0.out.next bx));have B1:=hide (below_setRow (zaz BA.out bx) (Nat.le_trans BA.out.size lg) #[.bool false,.bool false,.bool d,.int .i64 J]);have HG:=hide (show z+1≠g∧w.heap.size≤g from ⟨hne,Nat.le_trans BA.out.size lg⟩);have G0:=hide hg;have HN:=hide hnz;clear bx hg lg hne hnz BA R0 P0;simp only [Act.put,List.setIfInBounds_toArray,List.set_cons_succ,List.set_cons_zero];refine wpList_store_row rfl 55 (.tmp 5) (.tmp 17) rfl g _ rfl rfl 55 _ G0.out (by kernel_rfl) rfl (by kernel_rfl) ?_;refine zaj fun wb hwb=>?_
 rw [←hwb] at G1 R1 B1 P1;clear hwb G0;simp only [Act.put];have z3:=G1.out.frozen 3;have z2:=G1.out.frozen 2;have g0:=G1.out.c0;have g1:=G1.out.c1;have g2:=G1.out.c2;have g3:=G1.out.c3;have p0:=P1.out.c0;have p1:=P1.out.c1;have p2:=P1.out.c2;have hzg:¬z=g:=HN.out;have hgz:¬g=z:=fun e=>HN.out e.symm
 go_wp2_with (first
  |(refine wpList_load_row rfl 55 (.tmp 5) rfl g rfl _ _ _ _ G1.out Tryz.underlying55 rfl (by kernel_rfl) ?_)
  |(refine wpList_store_row rfl 55 (.tmp 4) (.tmp 42) rfl (z+1) _ rfl rfl 55 _ R1.out (by kernel_rfl) rfl (by kernel_rfl) ?_)
  |(refine bodyPost_ret (results_cell_row rfl _ _ (z+1) 55 _ (0,0) _ rfl (setRow_heap _ _ _ _ _ _ R1.out) Tryz.underlying55 rfl (by kernel_rfl)) rfl ⟨rfl,below_setRow B1.out (by have:=HZ.out;omega) _⟩))
theorem zmr (c d:Bool) (b i J x y:Int) (w:World) (ES:(x==1)=true) (EC:(y==1)=false) (hJ:0≤J∧J≤5) (C0:Hid (∀w,Calls Tryz.prog 68 #[.int .i64 b,.int .i64 0] w fun e w'=>e=Ending.returned (.int .i64 x)∧w'=w)) (C1:Hid (∀w,Calls Tryz.prog 68 #[.int .i64 b,.int .i64 1] w fun e w'=>e=Ending.returned (.int .i64 y)∧w'=w)) (CB:Hid (∀w,Calls Tryz.prog 248 #[.int .i64 i] w fun e w'=>e=Ending.returned (.int .i64 J)∧w'=w)) (hh:True):Calls Tryz.prog 212 #[.agg #[.bool true,.bool c,.bool d,.int .i64 i],.int .i64 b] w fun e w'=>e=Ending.returned (.agg #[.bool true,.bool false,.bool d,.int .i64 J])∧Below w.heap.size w w':=by
 go_enter Tryz.func212,Tryz.ntmps212;go_wp2_with fail;refine under_name fun wa hwa=>?_
 have P0:=hide (show HasP 55 wa w.heap.size true c d i by rw [hwa];exact (zee _ _ _ _ _ _).next ((Below.refl _ _).alloc (Nat.le_refl _) _));have R0:=hide (show HasP 55 wa (w.heap.size+1) false false false 0 by rw [hwa];exact heap_alloc2_new _ _ _);have BA:=hide (show Below w.heap.size w wa by rw [hwa];exact ((Below.refl _ w).alloc (Nat.le_refl _) _).alloc (by simp) _);clear hwa;obtain ⟨z,hz⟩:∃z,w.heap.size=z:=⟨_,rfl⟩
 rw [hz] at P0 R0 ⊢;have HZ:=hide hz;clear hz;refine zbW _ _ _ (show _=([_,_,_,_,_,_,_,_,_,_,_,_]++[_])++[_] from rfl) #[.bool false,.bool false,.bool false,.int .i64 0] 55 43 5 (by kernel_rfl) (by kernel_rfl) (by kernel_rfl) (by kernel_rfl) rfl ?_ ?_
 ·intro a w
  set_option maxRecDepth 100000 in
  rfl
 apply Exists.intro;refine ⟨fun V hV=>?_,?_⟩
 ·have I:=P0.out.next hV;have i2:=zah I.c2 I.lt;have i3:=zah I.c3 I.lt;clear hV I;haveI:=zax V
  repeat (go_big_quiet_step ((first
   |(go_at_call_of 68 (Value.int .i64 0);exact zaF (C0.out _))
   |(go_at_call_of 68 (Value.int .i64 1);exact zaF (C1.out _))
   |(go_at_call 248;exact zaF (CB.out _)))))
  refine wpQuiet_nil ?_;rfl
 intro g wx bx hg lg
 (try simp only [ES,EC])
 have G1:=hide (show HasP 55 (wx.setRow g #[.bool true,.bool false,.bool d,.int .i64 J]) g true false d J from setRow_heap _ _ _ _ _ _ hg);have hne:z+1≠g:=by have:=lt_of_block R0.out;omega
 have hnz:z≠g:=by have:=lt_of_block R0.out;omega
 have P1:=hide (show HasP 55 (wx.setRow g #[.bool true,.bool false,.bool d,.int .i64 J]) z true c d i from (setRow_other _ _ _ _ hnz).trans (P0.out.next bx));have R1:=hide (show HasP 55 (wx.setRow g #[.bool true,.bool false,.bool d,.int .i64 J]) (z+1) false false false 0 from (setRow_other _ _ _ _ hne).trans (R0.out.next bx));have B1:=hide (below_setRow (zaz BA.out bx) (Nat.le_trans BA.out.size lg) #[.bool true,.bool false,.bool d,.int .i64 J]);have HG:=hide (show z+1≠g∧w.heap.size≤g from ⟨hne,Nat.le_trans BA.out.size lg⟩);have G0:=hide hg;have HN:=hide hnz;clear bx hg lg hne hnz BA R0 P0;simp only [Act.put,List.setIfInBounds_toArray,List.set_cons_succ,List.set_cons_zero];refine wpList_store_row rfl 55 (.tmp 5) (.tmp 17) rfl g _ rfl rfl 55 _ G0.out (by kernel_rfl) rfl (by kernel_rfl) ?_;refine zaj fun wb hwb=>?_
 rw [←hwb] at G1 R1 B1 P1;clear hwb G0;simp only [Act.put];have z3:=G1.out.frozen 3;have z2:=G1.out.frozen 2;have g0:=G1.out.c0;have g1:=G1.out.c1;have g2:=G1.out.c2;have g3:=G1.out.c3;have p0:=P1.out.c0;have p1:=P1.out.c1;have p2:=P1.out.c2;have hzg:¬z=g:=HN.out;have hgz:¬g=z:=fun e=>HN.out e.symm
 go_wp2_with (first
  |(refine wpList_load_row rfl 55 (.tmp 5) rfl g rfl _ _ _ _ G1.out Tryz.underlying55 rfl (by kernel_rfl) ?_)
  |(refine wpList_store_row rfl 55 (.tmp 4) (.tmp 42) rfl (z+1) _ rfl rfl 55 _ R1.out (by kernel_rfl) rfl (by kernel_rfl) ?_)
  |(refine bodyPost_ret (results_cell_row rfl _ _ (z+1) 55 _ (0,0) _ rfl (setRow_heap _ _ _ _ _ _ R1.out) Tryz.underlying55 rfl (by kernel_rfl)) rfl ⟨rfl,below_setRow B1.out (by have:=HZ.out;omega) _⟩))
theorem zvr (c d:Bool) (b i J x y:Int) (w:World) (ES:(x==1)=true) (EC:(y==1)=false) (hJ:0≤J∧J≤5) (C0:Hid (∀w,Calls Tryz.prog 68 #[.int .i64 b,.int .i64 0] w fun e w'=>e=Ending.returned (.int .i64 x)∧w'=w)) (C1:Hid (∀w,Calls Tryz.prog 68 #[.int .i64 b,.int .i64 1] w fun e w'=>e=Ending.returned (.int .i64 y)∧w'=w)) (CB:Hid (∀w,Calls Tryz.prog 248 #[.int .i64 i] w fun e w'=>e=Ending.returned (.int .i64 J)∧w'=w)) (hlt:J<5):Calls Tryz.prog 212 #[.agg #[.bool false,.bool c,.bool d,.int .i64 i],.int .i64 b] w fun e w'=>e=Ending.returned (.agg #[.bool true,.bool false,.bool d,.int .i64 (J+1)])∧Below w.heap.size w w':=by
 go_enter Tryz.func212,Tryz.ntmps212;go_wp2_with fail;refine under_name fun wa hwa=>?_
 have P0:=hide (show HasP 55 wa w.heap.size false c d i by rw [hwa];exact (zee _ _ _ _ _ _).next ((Below.refl _ _).alloc (Nat.le_refl _) _));have R0:=hide (show HasP 55 wa (w.heap.size+1) false false false 0 by rw [hwa];exact heap_alloc2_new _ _ _);have BA:=hide (show Below w.heap.size w wa by rw [hwa];exact ((Below.refl _ w).alloc (Nat.le_refl _) _).alloc (by simp) _);clear hwa;obtain ⟨z,hz⟩:∃z,w.heap.size=z:=⟨_,rfl⟩
 rw [hz] at P0 R0 ⊢;have HZ:=hide hz;clear hz;refine zbW _ _ _ (show _=([_,_,_,_,_,_,_,_,_,_,_,_]++[_])++[_] from rfl) #[.bool false,.bool false,.bool false,.int .i64 0] 55 43 5 (by kernel_rfl) (by kernel_rfl) (by kernel_rfl) (by kernel_rfl) rfl ?_ ?_
 ·intro a w
  set_option maxRecDepth 100000 in
  rfl
 apply Exists.intro;refine ⟨fun V hV=>?_,?_⟩
 ·have I:=P0.out.next hV;have i2:=zah I.c2 I.lt;have i3:=zah I.c3 I.lt;clear hV I;haveI:=zax V
  repeat (go_big_quiet_step ((first
   |(go_at_call_of 68 (Value.int .i64 0);exact zaF (C0.out _))
   |(go_at_call_of 68 (Value.int .i64 1);exact zaF (C1.out _))
   |(go_at_call 248;exact zaF (CB.out _)))))
  refine wpQuiet_nil ?_;rfl
 intro g wx bx hg lg
 (try simp only [ES,EC])
 have G1:=hide (show HasP 55 (wx.setRow g #[.bool true,.bool false,.bool d,.int .i64 J]) g true false d J from setRow_heap _ _ _ _ _ _ hg);have hne:z+1≠g:=by have:=lt_of_block R0.out;omega
 have hnz:z≠g:=by have:=lt_of_block R0.out;omega
 have P1:=hide (show HasP 55 (wx.setRow g #[.bool true,.bool false,.bool d,.int .i64 J]) z false c d i from (setRow_other _ _ _ _ hnz).trans (P0.out.next bx));have R1:=hide (show HasP 55 (wx.setRow g #[.bool true,.bool false,.bool d,.int .i64 J]) (z+1) false false false 0 from (setRow_other _ _ _ _ hne).trans (R0.out.next bx));have B1:=hide (below_setRow (zaz BA.out bx) (Nat.le_trans BA.out.size lg) #[.bool true,.bool false,.bool d,.int .i64 J]);have HG:=hide (show z+1≠g∧w.heap.size≤g from ⟨hne,Nat.le_trans BA.out.size lg⟩);have G0:=hide hg;have HN:=hide hnz;clear bx hg lg hne hnz BA R0 P0;simp only [Act.put,List.setIfInBounds_toArray,List.set_cons_succ,List.set_cons_zero];refine wpList_store_row rfl 55 (.tmp 5) (.tmp 17) rfl g _ rfl rfl 55 _ G0.out (by kernel_rfl) rfl (by kernel_rfl) ?_;refine zaj fun wb hwb=>?_
 rw [←hwb] at G1 R1 B1 P1;clear hwb G0;simp only [Act.put];have z3:=G1.out.frozen 3;have z2:=G1.out.frozen 2;have g0:=G1.out.c0;have g1:=G1.out.c1;have g2:=G1.out.c2;have g3:=G1.out.c3;have p0:=P1.out.c0;have p1:=P1.out.c1;have p2:=P1.out.c2;have hzg:¬z=g:=HN.out;have hgz:¬g=z:=fun e=>HN.out e.symm
 go_wp2_with (first
  |(refine wpList_load_row rfl 55 (.tmp 5) rfl g rfl _ _ _ _ (G1.out.set3 (J+1)) Tryz.underlying55 rfl (by kernel_rfl) ?_)
  |(refine wpList_store_row rfl 55 (.tmp 4) (.tmp 42) rfl (z+1) _ rfl rfl 55 _ ((Below.heap_setCell _ _ _ _ HG.out.1).trans R1.out) (by kernel_rfl) rfl (by kernel_rfl) ?_)
  |(refine bodyPost_ret (results_cell_row rfl _ _ (z+1) 55 _ (0,0) _ rfl (setRow_heap _ _ _ _ _ _ ((Below.heap_setCell _ _ _ _ HG.out.1).trans R1.out)) Tryz.underlying55 rfl (by kernel_rfl)) rfl ⟨rfl,below_setRow (B1.out.setCell (p:=⟨g,3,none⟩) HG.out.2 _) (by have:=HZ.out;omega) _⟩))
theorem zpe (c d:Bool) (b i J x y:Int) (w:World) (ES:(x==1)=true) (EC:(y==1)=false) (hJ:0≤J∧J≤5) (C0:Hid (∀w,Calls Tryz.prog 68 #[.int .i64 b,.int .i64 0] w fun e w'=>e=Ending.returned (.int .i64 x)∧w'=w)) (C1:Hid (∀w,Calls Tryz.prog 68 #[.int .i64 b,.int .i64 1] w fun e w'=>e=Ending.returned (.int .i64 y)∧w'=w)) (CB:Hid (∀w,Calls Tryz.prog 248 #[.int .i64 i] w fun e w'=>e=Ending.returned (.int .i64 J)∧w'=w)) (hlt:5≤J):Calls Tryz.prog 212 #[.agg #[.bool false,.bool c,.bool d,.int .i64 i],.int .i64 b] w fun e w'=>e=Ending.returned (.agg #[.bool true,.bool false,.bool d,.int .i64 5])∧Below w.heap.size w w':=by
 go_enter Tryz.func212,Tryz.ntmps212;go_wp2_with fail;refine under_name fun wa hwa=>?_
 have P0:=hide (show HasP 55 wa w.heap.size false c d i by rw [hwa];exact (zee _ _ _ _ _ _).next ((Below.refl _ _).alloc (Nat.le_refl _) _));have R0:=hide (show HasP 55 wa (w.heap.size+1) false false false 0 by rw [hwa];exact heap_alloc2_new _ _ _);have BA:=hide (show Below w.heap.size w wa by rw [hwa];exact ((Below.refl _ w).alloc (Nat.le_refl _) _).alloc (by simp) _);clear hwa;obtain ⟨z,hz⟩:∃z,w.heap.size=z:=⟨_,rfl⟩
 rw [hz] at P0 R0 ⊢;have HZ:=hide hz;clear hz;refine zbW _ _ _ (show _=([_,_,_,_,_,_,_,_,_,_,_,_]++[_])++[_] from rfl) #[.bool false,.bool false,.bool false,.int .i64 0] 55 43 5 (by kernel_rfl) (by kernel_rfl) (by kernel_rfl) (by kernel_rfl) rfl ?_ ?_
 ·intro a w
  set_option maxRecDepth 100000 in
  rfl
 apply Exists.intro;refine ⟨fun V hV=>?_,?_⟩
 ·have I:=P0.out.next hV;have i2:=zah I.c2 I.lt;have i3:=zah I.c3 I.lt;clear hV I;haveI:=zax V
  repeat (go_big_quiet_step ((first
   |(go_at_call_of 68 (Value.int .i64 0);exact zaF (C0.out _))
   |(go_at_call_of 68 (Value.int .i64 1);exact zaF (C1.out _))
   |(go_at_call 248;exact zaF (CB.out _)))))
  refine wpQuiet_nil ?_;rfl
 intro g wx bx hg lg
 (try simp only [ES,EC])
 have G1:=hide (show HasP 55 (wx.setRow g #[.bool true,.bool false,.bool d,.int .i64 J]) g true false d J from setRow_heap _ _ _ _ _ _ hg);have hne:z+1≠g:=by have:=lt_of_block R0.out;omega
 have hnz:z≠g:=by have:=lt_of_block R0.out;omega
 have P1:=hide (show HasP 55 (wx.setRow g #[.bool true,.bool false,.bool d,.int .i64 J]) z false c d i from (setRow_other _ _ _ _ hnz).trans (P0.out.next bx));have R1:=hide (show HasP 55 (wx.setRow g #[.bool true,.bool false,.bool d,.int .i64 J]) (z+1) false false false 0 from (setRow_other _ _ _ _ hne).trans (R0.out.next bx));have B1:=hide (below_setRow (zaz BA.out bx) (Nat.le_trans BA.out.size lg) #[.bool true,.bool false,.bool d,.int .i64 J]);have HG:=hide (show z+1≠g∧w.heap.size≤g from ⟨hne,Nat.le_trans BA.out.size lg⟩);have G0:=hide hg;have HN:=hide hnz;clear bx hg lg hne hnz BA R0 P0;simp only [Act.put,List.setIfInBounds_toArray,List.set_cons_succ,List.set_cons_zero];refine wpList_store_row rfl 55 (.tmp 5) (.tmp 17) rfl g _ rfl rfl 55 _ G0.out (by kernel_rfl) rfl (by kernel_rfl) ?_;refine zaj fun wb hwb=>?_
 rw [←hwb] at G1 R1 B1 P1;clear hwb G0;simp only [Act.put];have z3:=G1.out.frozen 3;have z2:=G1.out.frozen 2;have g0:=G1.out.c0;have g1:=G1.out.c1;have g2:=G1.out.c2;have g3:=G1.out.c3;have p0:=P1.out.c0;have p1:=P1.out.c1;have p2:=P1.out.c2;have hzg:¬z=g:=HN.out;have hgz:¬g=z:=fun e=>HN.out e.symm
 go_wp2_with (first
  |(refine wpList_load_row rfl 55 (.tmp 5) rfl g rfl _ _ _ _ (G1.out.set3 5) Tryz.underlying55 rfl (by kernel_rfl) ?_)
  |(refine wpList_store_row rfl 55 (.tmp 4) (.tmp 42) rfl (z+1) _ rfl rfl 55 _ ((Below.heap_setCell _ _ _ _ HG.out.1).trans R1.out) (by kernel_rfl) rfl (by kernel_rfl) ?_)
  |(refine bodyPost_ret (results_cell_row rfl _ _ (z+1) 55 _ (0,0) _ rfl (setRow_heap _ _ _ _ _ _ ((Below.heap_setCell _ _ _ _ HG.out.1).trans R1.out)) Tryz.underlying55 rfl (by kernel_rfl)) rfl ⟨rfl,below_setRow (B1.out.setCell (p:=⟨g,3,none⟩) HG.out.2 _) (by have:=HZ.out;omega) _⟩))
theorem write_any (s c d:Bool) (i b:Int) (w:World):Calls Tryz.prog 212 #[.agg #[.bool s,.bool c,.bool d,.int .i64 i],.int .i64 b] w fun e w'=>e=Ending.returned (.agg #[.bool (selB b),.bool (clrB b),.bool (nxD c d (clrB b)),.int .i64 (nxI s (selB b) (clrB b) i)])∧Below w.heap.size w w':=by
 have hJ:=zyp i;have C0:=hide (fun w=>zaZ b 0 w);have C1:=hide (fun w=>zaZ b 1 w);have CB:=hide (fun w=>bounded_any i w);have es:(zaV b 0==1)=selB b:=rfl;have ec:(zaV b 1==1)=clrB b:=rfl;unfold nxD nxI
 revert es ec
 generalize selB b=S;generalize clrB b=C;intro es ec;cases C
 ·cases S
  ·exact zrU s c d b i _ _ _ w es ec hJ C0 C1 CB trivial
  ·cases s
   ·by_cases h:bndI i<5
    ·have e:min (bndI i+1) 5=bndI i+1:=by omega
     simp only [Bool.not_false,Bool.and_true,if_true,Bool.false_eq_true,if_false,Bool.false_and,e];exact zvr c d b i _ _ _ w es ec hJ C0 C1 CB h
    ·have e:min (bndI i+1) 5=5:=by omega
     simp only [Bool.not_false,Bool.and_true,if_true,Bool.false_eq_true,if_false,Bool.false_and,e];exact zpe c d b i _ _ _ w es ec hJ C0 C1 CB (by omega)
   ·exact zmr c d b i _ _ _ w es ec hJ C0 C1 CB trivial
 ·cases c
  ·exact zpd S s d b i _ _ _ w es ec hJ C0 C1 CB trivial
  ·exact zrT S s d b i _ _ _ w es ec hJ C0 C1 CB trivial
end Go.Proofs.YtdiidjehdginnaaGreatDoor.J23
namespace Go.Proofs.YtdiidjehdginnaaGreatDoor.L24
set_option maxHeartbeats 1000000
set_option maxRecDepth 20000
open B4 C3 G6 I11 J23 M5 P22 R15 T10 V12 W13
open Go.RowKit
set_option linter.unusedVariables false
variable {bu hd lo rd st wr x:Int} {L:List (Nat×(Nat→Value))} {bs:List Int} {b c d v:Nat} {f:Nat→Int} {w:World}
theorem zAY (n m:Int) (m0:0≤m) (m1:m<2 ^ 62):0≤bits .and .i64 n m∧bits .and .i64 n m≤m:=by
 obtain ⟨m,rfl⟩:=Int.eq_ofNat_of_zero_le m0;have e:(BitVec.ofInt 64 n &&& BitVec.ofInt 64 (m:Int)).toNat≤m:=by
  rw [BitVec.toNat_and,BitVec.ofInt_natCast,BitVec.toNat_ofNat,Nat.mod_eq_of_lt (by omega:m<2 ^ 64)];exact Nat.and_le_right
 show 0≤IntKind.i64.wrap ((BitVec.ofInt 64 n &&& BitVec.ofInt 64 (m:Int)).toNat:Nat)∧IntKind.i64.wrap ((BitVec.ofInt 64 n &&& BitVec.ofInt 64 (m:Int)).toNat:Nat)≤m;generalize (BitVec.ofInt 64 n &&& BitVec.ofInt 64 (m:Int)).toNat=x at *;rw [zbE _ (by omega) (by omega)];omega
def vF (c a:Int) (f:Nat→Int):Nat→Int:=fun j=>if j=0 then c else if j=1 then a else f (j-2)
theorem zdx (c a:Int) (f:Nat→Int):rowF (iv (vF c a f)) 514=V12.rowV c a f:=by
 apply Array.ext_getElem?;intro j
 by_cases h:j<514
 ·rw [zbp _ _ _ h];unfold iv vF;rcases j with _|_|j
  ·exact (V12.rowV_0 c a f).symm
  ·exact (V12.rowV_1 c a f).symm
  ·rw [if_neg (by omega),if_neg (by omega),show j+1+1=2+j by omega,V12.rowV_at c a f j (by omega),show 2+j-2=j by omega]
 ·rw [zcZ _ _ _ h,Array.getElem?_eq_none (by rw [V12.rowV_size];omega)]
theorem zAZ (f:Nat→Int) (N:Nat):∀j,j<N→(iv f j).oneCell'=true:=fun _ _=>rfl
def pv (s c d:Bool) (i:Int):Nat→Value:=fun j=>if j=0 then .bool s else if j=1 then .bool c else if j=2 then .bool d else .int .i64 i
theorem zwT (s c d:Bool) (i:Int):rowF (pv s c d i) 4=#[.bool s,.bool c,.bool d,.int .i64 i]:=rfl
theorem zBa (s c d:Bool) (i:Int):∀j,j<4→(pv s c d i j).oneCell'=true:=fun j _=>by
 unfold pv;split
 ·rfl
 ·split
  ·rfl
  ·split<;>rfl
theorem zyr (h:HasX w b v c d L bs f wr rd st lo bu) (p g a:Int) (hk:zaH p=4) (hg:zcD p=g) (ha:atW p=a) (h16:L[16]? = some (1,fun _=>Value.int .i64 x)):Calls Tryz.prog 67 #[.pointer (some ⟨b,0,none⟩),.int .i64 p] w fun e w'=>e=Ending.returned (.int .i64 x)∧HasX w' b v c d L bs f wr rd st lo bu∧OnlyE (EX b v) w w':=by
 refine zuJ h p g a (zbx p 4 g a hk hg ha) (R:=fun w'=>HasX w' b v c d L bs f wr rd st lo bu∧OnlyE (EX b v) w w') fun w1 b1=>?_
 exact (zmj (h.next b1) 4 g a h16).mono fun e w' ⟨e1,x2,o2⟩=>⟨e1,x2,(zay b1).trans o2⟩
theorem zBb (h:HasX w b v c d L bs f wr rd st lo bu) (p g a i y:Int) (hk:zaH p=4) (hg:zcD p=g) (ha:atW p=a) (hy:i%256=y) {q:Nat→Int} (h11:L[11]? = some (244,iv q)) (ok:P22.okP q) (h16:L[16]? = some (1,fun _=>Value.int .i64 hd)):Calls Tryz.prog 160 #[.pointer (some ⟨b,0,none⟩),.int .i64 p,.int .i64 i] w fun e w'=>e=Ending.returned (.tuple #[])∧HasX w' b v c d ((L.set 11 (244,iv (P22.wrF q a y))).set 16 (1,fun _=>Value.int .i64 y)) bs f wr rd st lo bu∧OnlyE (EX b v) w w':=
 zro h p i g a (zbx p 4 g a hk hg ha) y hy h11 (fun w=>P22.write_any q a y ok w) (zAZ _ _) h16
theorem zBc (h:HasX w b v c d L bs f wr rd st lo bu) (p g a i y:Int) (hk:zaH p=6) (hg:zcD p=g) (ha:atW p=a) (hy:i%256=y) {S C D:Bool} {I:Int} (h14:L[14]? = some (4,pv S C D I)) (h16:L[16]? = some (1,fun _=>Value.int .i64 hd)):Calls Tryz.prog 160 #[.pointer (some ⟨b,0,none⟩),.int .i64 p,.int .i64 i] w fun e w'=>e=Ending.returned (.tuple #[])∧HasX w' b v c d ((L.set 14 (4,pv (J23.selB y) (J23.clrB y) (J23.nxD C D (J23.clrB y)) (J23.nxI S (J23.selB y) (J23.clrB y) I))).set 16 (1,fun _=>Value.int .i64 y)) bs f wr rd st lo bu∧OnlyE (EX b v) w w':=
 zrq h p i g a (zbx p 6 g a hk hg ha) y hy h14 (fun w=>by rw [zwT,zwT];exact J23.write_any S C D I y w) (zBa _ _ _ _) h16
open B4 C3 G6 R15 W13
theorem zpf (x y:Int) (x0:x<1∨7<x):Calls Tryz.prog 243 #[.pointer (some ⟨b,0,none⟩),.int .i64 x,.int .i64 y] w fun e w'=>e=Ending.returned (.tuple #[])∧w'=w:=by
 have e1:(x==1)=false:=by simp;omega
 have e2:(x==2)=false:=by simp;omega
 have e3:(x==3)=false:=by simp;omega
 have e4:(x==4)=false:=by simp;omega
 have e5:(x==5)=false:=by simp;omega
 have e6:(x==6)=false:=by simp;omega
 have e7:(x==7)=false:=by simp;omega
 clear x0;go_enter Tryz.func243,Tryz.ntmps243;go_wp2;go_end0;exact ⟨rfl,rfl⟩
theorem zlo (h:HasX w b v c d L bs f wr rd st lo bu) (y x:Int) (hx:y%256=x):Calls Tryz.prog 243 #[.pointer (some ⟨b,0,none⟩),.int .i64 3,.int .i64 y] w fun e w'=>e=Ending.returned (.tuple #[])∧HasX w' b v c d L bs f wr rd st x bu∧OnlyE (EX b v) w w':=by
 have K0:=hide (zqX v f wr rd st lo bu w h.2.1 y x hx);clear hx;have c1:=h.1.get1 1 h.2.2.2.2.2.1 (a:=21) (h.isB.off 1 rfl) (by decide);have X1:=hide h;have O1:=hide (OnlyE.of (E:=EX b v) (Below.refl w.heap.size w));have S0:=hide h.2.2.2.2.2.2.2.2.2;clear h;go_enter Tryz.func243,Tryz.ntmps243;go_wp2_with fail;refine K0.out.mono ?_;rintro e w2 ⟨rfl,h2,o2⟩;have X2:=hide (X1.out.vram o2 h2 S0.out);have O2:=hide (O1.out.trans (zfA o2));clear h2 o2 K0;go_wp2;go_end0;exact ⟨rfl,X2.out,O2.out⟩
theorem zke (h:HasX w b v c d L bs f wr rd st lo bu) (y x z:Int) (F:Nat→Int) (hx:lo%256+256*(y%256)=x) (hF:zeB f wr x=F) (w0:0≤wr) (w1:wr<65536) (s0:0≤st) (s1:st<65536) (hz:(wr+st)%65536=z):Calls Tryz.prog 243 #[.pointer (some ⟨b,0,none⟩),.int .i64 4,.int .i64 y] w fun e w'=>e=Ending.returned (.tuple #[])∧HasX w' b v c d L bs F z rd st lo bu∧OnlyE (EX b v) w w':=by
 have K0:=hide (zoG v f wr rd st lo bu w h.2.1 y x z F hx hF w0 w1 s0 s1 hz);clear hx hF w0 w1 s0 s1 hz;have c1:=h.1.get1 1 h.2.2.2.2.2.1 (a:=21) (h.isB.off 1 rfl) (by decide);have X1:=hide h;have O1:=hide (OnlyE.of (E:=EX b v) (Below.refl w.heap.size w));have S0:=hide h.2.2.2.2.2.2.2.2.2;clear h;go_enter Tryz.func243,Tryz.ntmps243;go_wp2_with fail;refine K0.out.mono ?_;rintro e w2 ⟨rfl,h2,o2⟩;have X2:=hide (X1.out.vram o2 h2 S0.out);have O2:=hide (O1.out.trans (zfA o2));clear h2 o2 K0;go_wp2;go_end0;exact ⟨rfl,X2.out,O2.out⟩
theorem ziS (h:HasX w b v c d L bs f wr rd st lo bu) (y x:Int) {rg:Nat→Int} (h0:L[0]? = some (21,iv rg)) (hx:rg 1%65536=x):Calls Tryz.prog 243 #[.pointer (some ⟨b,0,none⟩),.int .i64 1,.int .i64 y] w fun e w'=>e=Ending.returned (.tuple #[])∧HasX w' b v c d L bs f x rd st lo bu∧OnlyE (EX b v) w w':=by
 have KK:=hide (fun w h=>zhY v f wr rd st lo bu w h (rg 1) x hx);clear hx;have i1:=zah (h.1.get1 1 h.2.2.2.2.2.1 (a:=21) (h.isB.off 1 rfl) (by decide)) h.1.lt;have i0:=zah (h.1.get 0 h0 1 (by decide) (a:=1) (by rw [h.isB.off 0 (a:=0) rfl]) (by decide)) h.1.lt;have HE:=hide h;have S0:=hide h.2.2.2.2.2.2.2.2.2;clear h h0;go_enter Tryz.func243,Tryz.ntmps243;go_wp2_with fail;haveI:=zax w;refine zaq _ _ (show _=[_,_,_,_,_,_,_,_,_,_,_,_]++[_] from rfl) (by kernel_rfl) (by kernel_rfl) (by kernel_rfl) ?_
 repeat (go_big_quiet_step (fail))
 refine wpQuiet_nil ?_;rintro _ ⟨wk,rfl⟩;have X1:=hide (HE.out.next wk.below);have O1:=hide (zay (b:=b) (v:=v) wk.below);have K0:=hide (KK.out wk.val X1.out.2.1);generalize wk.val=w1 at *;clear i1 i0 HE KK;go_wp2_with fail;refine K0.out.mono ?_;rintro e w2 ⟨rfl,h2,o2⟩;have X2:=hide (X1.out.vram o2 h2 S0.out);have O2:=hide (O1.out.trans (zfA o2));clear h2 o2 K0;go_wp2;go_end0;exact ⟨rfl,X2.out,O2.out⟩
theorem zkf (h:HasX w b v c d L bs f wr rd st lo bu) (y x z:Int) {rg:Nat→Int} (h0:L[0]? = some (21,iv rg)) (hx:rg 2%65536=x) (hz:zbH f x=z):Calls Tryz.prog 243 #[.pointer (some ⟨b,0,none⟩),.int .i64 2,.int .i64 y] w fun e w'=>e=Ending.returned (.tuple #[])∧HasX w' b v c d L bs f wr x st lo z∧OnlyE (EX b v) w w':=by
 have KK:=hide (fun w h=>zji v f wr rd st lo bu w h (rg 2) x z hx hz);clear hx hz;have i1:=zah (h.1.get1 1 h.2.2.2.2.2.1 (a:=21) (h.isB.off 1 rfl) (by decide)) h.1.lt;have i0:=zah (h.1.get 0 h0 2 (by decide) (a:=2) (by rw [h.isB.off 0 (a:=0) rfl]) (by decide)) h.1.lt;have HE:=hide h;have S0:=hide h.2.2.2.2.2.2.2.2.2;clear h h0;go_enter Tryz.func243,Tryz.ntmps243;go_wp2_with fail;haveI:=zax w;refine zaq _ _ (show _=[_,_,_,_,_,_,_,_,_,_,_,_]++[_] from rfl) (by kernel_rfl) (by kernel_rfl) (by kernel_rfl) ?_
 repeat (go_big_quiet_step (fail))
 refine wpQuiet_nil ?_;rintro _ ⟨wk,rfl⟩;have X1:=hide (HE.out.next wk.below);have O1:=hide (zay (b:=b) (v:=v) wk.below);have K0:=hide (KK.out wk.val X1.out.2.1);generalize wk.val=w1 at *;clear i1 i0 HE KK;go_wp2_with fail;refine K0.out.mono ?_;rintro e w2 ⟨rfl,h2,o2⟩;have X2:=hide (X1.out.vram o2 h2 S0.out);have O2:=hide (O1.out.trans (zfA o2));clear h2 o2 K0;go_wp2;go_end0;exact ⟨rfl,X2.out,O2.out⟩
theorem zpg (h:HasX w b v c d L bs f wr rd st lo bu) (y n x:Int) {rg:Nat→Int} (h0:L[0]? = some (21,iv rg)) (KF:∀w,Calls Tryz.prog 267 #[.agg (rowF (iv rg) 21)] w fun e w'=>e=Ending.returned (.int .i64 n)∧Below w.heap.size w w') (hx:n%65536=x) (x0:x≠0):Calls Tryz.prog 243 #[.pointer (some ⟨b,0,none⟩),.int .i64 5,.int .i64 y] w fun e w'=>e=Ending.returned (.tuple #[])∧HasX w' b v c d L bs f wr rd x lo bu∧OnlyE (EX b v) w w':=by
 have KK:=hide (fun w h=>zoF v f wr rd st lo bu w h n x hx);have FK:=hide KF;have i1:=zah (h.1.get1 1 h.2.2.2.2.2.1 (a:=21) (h.isB.off 1 rfl) (by decide)) h.1.lt;have R0:=hide (h.1.range 0 21 (by decide));rw [zbh (h.1.seg 0 h0 (a:=0) (h.isB.off 0 rfl))] at R0;have IG:Hid ((Tryz.prog.info? 32).map (·.size)=some (rowF (iv rg) 21).size):=hide (by rw [zai];kernel_rfl);have HL:=hide h.1.lt;have HE:=hide h;have S0:=hide x0;clear h h0 KF hx x0;generalize rowF (iv rg) 21=A at *;go_enter Tryz.func243,Tryz.ntmps243;go_wp2_with fail;haveI:=zax w;refine zaq _ _ (show _=[_,_,_,_,_,_,_,_,_,_,_]++[_] from rfl) (by kernel_rfl) (by kernel_rfl) (by kernel_rfl) ?_
 repeat (first
  |(refine wpQuiet_mid rfl 32 (.tmp 65) rfl b 0 rfl A _ (fun w' ⟨x,hx⟩=>by rw [hx];intro j y hy;rw [x.cell b _ HL.out];exact R0.out j y hy) Tryz.underlying32 rfl IG.out ?_;simp only [Act.put,List.setIfInBounds_toArray,List.set_cons_succ,List.set_cons_zero])
  |go_big_quiet_step ((go_at_call 267;exact zaL (FK.out _))))
 refine wpQuiet_nil ?_;rintro _ ⟨wk,rfl⟩;have X1:=hide (HE.out.next wk.below);have O1:=hide (zay (b:=b) (v:=v) wk.below);have K0:=hide (KK.out wk.val X1.out.2.1);generalize wk.val=w1 at *;clear i1 R0 HE KK FK HL;go_wp2_with fail;refine K0.out.mono ?_;rintro e w2 ⟨rfl,h2,o2⟩;have X2:=hide (X1.out.vram o2 h2 S0.out);have O2:=hide (O1.out.trans (zfA o2));clear h2 o2 K0;go_wp2;go_end0;exact ⟨rfl,X2.out,O2.out⟩
theorem zrV (h:HasX w b v c d L bs f wr rd st lo bu) (y:Int) {q:Value} (h4:L[4]? = some (1,fun _=>q)):Calls Tryz.prog 243 #[.pointer (some ⟨b,0,none⟩),.int .i64 7,.int .i64 y] w fun e w'=>e=Ending.returned (.tuple #[])∧HasX w' b v c d (L.set 4 (1,fun _=>.bool true)) bs f wr rd st lo bu∧OnlyE (EX b v) w w':=by
 have c4:=h.1.get1 4 h4 (a:=279) (h.isB.off 4 rfl) (by decide);have z4:=h.1.frozen 279;have H4:=hide (h.1.put1 4 h4 (a:=279) (h.isB.off 4 rfl) (.bool true));have HE:=hide h;have E4:=hide h4;clear h h4;go_enter Tryz.func243,Tryz.ntmps243;go_wp2;go_end0;have B:=(But.refl b w).set 279 (.bool true);exact ⟨rfl,HE.out.lay B 4 E4.out H4.out (by decide) (by decide),zbr B⟩
theorem zvs (w:World):(zeroValue 32).run Tryz.prog w=.ok (.agg (rowF (iv fun _=>0) 21)) w:=by kernel_rfl
def mvB (mv:Bool) (s a:Int):Bool:=mv||(s==8&&(a==2||a==3))
theorem zms {L : List (Nat × (Nat → Value))} {f : Nat → Int}  (h : HasX w b v c d L bs f wr rd st lo bu) (a y : Int) {rg rg' : Nat → Int} {mv : Bool} {br : Int} (h0 : L[0]? = some (21, iv rg)) (h5 : L[5]? = some (1, fun _ => .bool mv))
    (KW : ∀ w, HasMask w → Calls Tryz.prog 242 #[.agg (rowF (iv rg) 21), .int .i64 a, .int .i64 y] w fun e w' => e = Ending.returned (.tuple #[.agg (rowF (iv rg') 21), .int .i64 br]) ∧ Below w.heap.size w w') {R : World → Prop}
    (KB : ∀ w, HasX w b v c d ((L.set 0 (21, iv rg')).set 5 (1, fun _ => .bool (mvB mv (rg' 0) a))) bs f wr rd st lo bu → Calls Tryz.prog 243 #[.pointer (some ⟨b, 0, none⟩), .int .i64 br, .int .i64 y] w fun e w' => e = Ending.returned (.tuple #[]) ∧ R w' ∧ OnlyE (EX b v) w w') :
    Calls Tryz.prog 208 #[.pointer (some ⟨b, 0, none⟩), .int .i64 a, .int .i64 y] w fun e w' => e = Ending.returned (.tuple #[]) ∧ R w' ∧ OnlyE (EX b v) w w' := by
  have W0 := hide (KW w h.tabs.2.2)
  have K0 := hide KB
  have SG := hide (h.1.seg 0 h0 (a := 0) (h.isB.off 0 rfl))
  have E0 := hide h0
  have E5 := hide (zaB (k := 0) h5 (21, iv rg') (by decide))
  have HE := hide h
  have ZO : Hid ((rowF (iv rg') 21).all (·.oneCell') = true) := hide (zby _ _)
  have ZI : Hid ((Tryz.prog.info? 32).map (·.size) = some (rowF (iv rg') 21).size) := hide (by rw [zai]; kernel_rfl)
  have ZS : Hid ((rowF (iv fun _ => 0) 21).size = (rowF (iv rg') 21).size) := hide (by rw [zai, zai])
  clear h h0 h5 KW KB
  go_enter Tryz.func208, Tryz.ntmps208
  go_upto_region 2 with (first
    | (refine zaw rfl 32 (.tmp 12) rfl b 0 rfl HE.out.1 21 (by decide) (iv rg) SG.out _ Tryz.underlying32 rfl (by kernel_rfl) ?_)
    | (go_at_call 242; refine W0.out.mono ?_; rintro e w2 ⟨rfl, b2⟩; have X2 := hide (HE.out.next b2); have B2 := hide b2; clear b2 W0)
    | (refine zav rfl 32 rfl (rowF (iv fun _ => 0) 21) zvs ?_)
    | (refine wpList_store_row rfl 32 (.tmp 6) (.tmp 17) rfl w2.heap.size _ rfl rfl 32 _ (zbo _ _ _ _) ZI.out ZS.out ZO.out ?_
       refine zaj fun w3 hw3 => ?_
       have W3 : Below w2.heap.size w2 w3 := (by rw [hw3]; exact below_setRow ((Below.refl _ _).alloc (Nat.le_refl _) _) (Nat.le_refl _) _)
       have M3 : Hid (w3.heap[w2.heap.size]? = some (.cells (rowF (iv rg') 21) 32 (0, 0))) := hide (by rw [hw3]; exact setRow_heap _ _ _ _ _ _ (zbo _ _ _ _))
       have X3 := hide (X2.out.next W3)
       have B3 := hide (zaz B2.out W3)
       clear hw3 W3 X2 B2)
    | (refine wpList_load_row rfl 32 (.tmp 6) rfl w2.heap.size rfl _ _ _ _ M3.out Tryz.underlying32 rfl ZI.out ?_)
    | (refine zau rfl 32 (.tmp 23) (.tmp 20) rfl b 0 21 (iv rg') rfl rfl X3.out.1 (by decide) (by kernel_rfl) (fun _ _ => rfl) ?_
       refine zaj fun w4 hw4 => ?_
       have B4 : But b w3 w4 := (by rw [hw4]; exact But.cells _ _ _ (But.refl b w3))
       have X4 := hide (X3.out.lay B4 0 E0.out (by rw [hw4]; exact X3.out.1.lay 0 E0.out (iv rg') (X3.out.isB.off 0 rfl)) (by decide) (by decide))
       have O4 := hide ((zay (b := b) (v := v) B3.out).trans (zbr B4))
       clear hw4 B4 X3 B3 M3))
  have cs : w4.cell? ⟨b, 0, none⟩ = some (.int .i64 (rg' 0)) := X4.out.1.get 0 (zcp E0.out _) 0 (by decide) (a := 0) (by rw [X4.out.isB.off 0 (a := 0) rfl]) (by decide)
  clear SG E0 ZO ZI ZS HE
  by_cases s8 : rg' 0 = 8
  · have eb : (rg' 0 == 8) = true := by simp [s8]
    by_cases a2 : a = 2
    · have ec : (a == 2) = true := by simp [a2]
      clear s8 a2
      have em : mvB mv (rg' 0) a = true := by unfold mvB; simp [eb, ec]
      rw [em] at K0
      have c5 := X4.out.1.get1 5 E5.out (a := 280) (X4.out.isB.off 5 rfl) (by decide)
      have z5 := X4.out.1.frozen 280
      have k5 := (But.refl b w4).set 280 (.bool true)
      have X5 := hide (X4.out.lay k5 5 E5.out (X4.out.1.put1 5 E5.out (a := 280) (X4.out.isB.off 5 rfl) (.bool true)) (by decide) (by decide))
      have O5 := hide (O4.out.trans (zbr (v := v) k5))
      clear k5 em
      go_wp2_with fail
      refine (K0.out _ X5.out).mono ?_
      rintro e w6 ⟨rfl, r6, o6⟩
      have R6 := hide r6
      have O6 := hide (O5.out.trans o6)
      clear r6 o6 K0
      go_wp2
      go_end0
      exact ⟨rfl, R6.out, O6.out⟩
    · have ed : (a == 2) = false := by simp [a2]
      by_cases a3 : a = 3
      · have ec : (a == 3) = true := by simp [a3]
        clear s8 a2 a3
        have em : mvB mv (rg' 0) a = true := by unfold mvB; simp [eb, ec]
        rw [em] at K0
        have c5 := X4.out.1.get1 5 E5.out (a := 280) (X4.out.isB.off 5 rfl) (by decide)
        have z5 := X4.out.1.frozen 280
        have k5 := (But.refl b w4).set 280 (.bool true)
        have X5 := hide (X4.out.lay k5 5 E5.out (X4.out.1.put1 5 E5.out (a := 280) (X4.out.isB.off 5 rfl) (.bool true)) (by decide) (by decide))
        have O5 := hide (O4.out.trans (zbr (v := v) k5))
        clear k5 em
        go_wp2_with fail
        refine (K0.out _ X5.out).mono ?_
        rintro e w6 ⟨rfl, r6, o6⟩
        have R6 := hide r6
        have O6 := hide (O5.out.trans o6)
        clear r6 o6 K0
        go_wp2
        go_end0
        exact ⟨rfl, R6.out, O6.out⟩
      · have ec : (a == 3) = false := by simp [a3]
        have ef : (a == 2 || a == 3) = false := by rw [ed, ec]; rfl
        clear s8 a2 a3
        have em : mvB mv (rg' 0) a = mv := by unfold mvB; rw [ef]; simp
        rw [em, zhU E5.out] at K0
        clear em ef
        go_wp2_with fail
        refine (K0.out _ X4.out).mono ?_
        rintro e w6 ⟨rfl, r6, o6⟩
        have R6 := hide r6
        have O6 := hide (O4.out.trans o6)
        clear r6 o6 K0
        go_wp2
        go_end0
        exact ⟨rfl, R6.out, O6.out⟩
  · have eb : (rg' 0 == 8) = false := by simp [s8]
    clear s8
    have em : mvB mv (rg' 0) a = mv := by unfold mvB; simp [eb]
    rw [em, zhU E5.out] at K0
    clear em
    go_wp2_with fail
    refine (K0.out _ X4.out).mono ?_
    rintro e w6 ⟨rfl, r6, o6⟩
    have R6 := hide r6
    have O6 := hide (O4.out.trans o6)
    clear r6 o6 K0
    go_wp2
    go_end0
    exact ⟨rfl, R6.out, O6.out⟩
def gF (s:Int) (R:Nat→Int):Nat→Int:=fun j=>if j=0 then s else R (j-1)
theorem zif (s:Int) (R:Nat→Int):rowF (iv (gF s R)) 21=R15.rowG s R:=by
 apply Array.ext_getElem?;intro j
 by_cases h:j<21
 ·rw [zbp _ _ _ h];unfold iv gF;rcases j with _|j
  ·exact (R15.rowG_0 s R).symm
  ·rw [if_neg (by omega),show j+1=1+j by omega,R15.rowG_at s R j (by omega),show 1+j-1=j by omega]
 ·rw [zcZ _ _ _ h,Array.getElem?_eq_none (by rw [R15.rowG_size];omega)]
theorem zBd (h:HasX w b v c d L bs f wr rd st lo bu) (p g:Int) (hk:zaH p=2) (hg:zcD p=g) (ha:atW p=2) (hx:bu%256=x):Calls Tryz.prog 67 #[.pointer (some ⟨b,0,none⟩),.int .i64 p] w fun e w'=>e=Ending.returned (.int .i64 x)∧HasX w' b v c d L bs f wr rd st lo bu∧OnlyE (EX b v) w w':=by
 refine zhA h p g 2 (zbx p 2 g 2 hk hg ha) (R:=fun w'=>HasX w' b v c d L bs f wr rd st lo bu∧OnlyE (EX b v) w w') fun w1 b1=>?_
 exact (zrg (h.next b1) 2 g 2 rfl hx).mono fun e w' ⟨e1,x2,o2⟩=>⟨e1,x2,(zay b1).trans o2⟩
theorem zys (h:HasX w b v c d L bs f wr rd st lo bu) (p g:Int) (hk:zaH p=2) (hg:zcD p=g) (ha:atW p=3) {y z:Int} (r0:0≤rd) (r1:rd<65536) (s0:0≤st) (s1:st<65536) (hx:bu/256%256=x) (hy:(rd+st)%65536=y) (hz:zbH f y=z):Calls Tryz.prog 67 #[.pointer (some ⟨b,0,none⟩),.int .i64 p] w fun e w'=>e=Ending.returned (.int .i64 x)∧HasX w' b v c d L bs f wr y st lo z∧OnlyE (EX b v) w w':=by
 refine zhA h p g 3 (zbx p 2 g 3 hk hg ha) (R:=fun w'=>HasX w' b v c d L bs f wr y st lo z∧OnlyE (EX b v) w w') fun w1 b1=>?_
 exact (zrh (h.next b1) 2 g 3 rfl r0 r1 s0 s1 hx hy hz).mono fun e w' ⟨e1,x2,o2⟩=>⟨e1,x2,(zay b1).trans o2⟩
end Go.Proofs.YtdiidjehdginnaaGreatDoor.L24
namespace Go.Proofs.YtdiidjehdginnaaGreatDoor.B4
set_option maxHeartbeats 1000000
set_option maxRecDepth 20000
open C3
open Go.RowKit
set_option linter.unusedVariables false
theorem zyt {n:Int} (hn:zdb n=true) (l:Int) (p:Nat) (hp:p<128):0≤zde n l p∧zde n l p<n:=by
 have hk:=zgE hn;have h0:=znm hn;unfold zde;rw [if_pos ⟨hn,by omega⟩];generalize zda n=k at *;have lo:0<zdc k n∧zdc k n≤n:=by unfold zdc;split;omega;split<;>omega
 have up:0<zeD k n∧0≤zdd k n l∧zdd k n l+zeD k n≤n:=by
  unfold zeD zdd;split;omega;split<;>omega
 generalize zdc k n=s at *;generalize zeD k n=t at *;generalize zdd k n l=f at *;have m0:=Int.emod_nonneg (p:Int) (show s≠0 by omega);have m1:=Int.emod_lt_of_pos (p:Int) lo.1;have m2:=Int.emod_nonneg (p:Int) (show t≠0 by omega);have m3:=Int.emod_lt_of_pos (p:Int) up.1;split
 ·omega
 ·rw [if_pos (by omega)];omega
end Go.Proofs.YtdiidjehdginnaaGreatDoor.B4
namespace Go.Proofs.YtdiidjehdginnaaGreatDoor.W13
set_option maxHeartbeats 1000000
set_option maxRecDepth 20000
open Go.RowKit
set_option linter.unusedVariables false
variable {w:World}
def mvTo (f:Nat→Int) (A S B T:Int):Nat→Nat→Int
 |0=>f
 |k+1=>zeB (mvTo f A S B T k) (zbg B T k) (zbH (mvTo f A S B T k) (zbg A S k))
theorem zrW (f:Nat→Int) (A S B T:Int) (k:Nat):zeB (mvTo f A S B T k) (zbg B T k) (zbH (mvTo f A S B T k) (zbg A S k))=mvTo f A S B T (k+1):=rfl
def farOf (c k:Int):Int:=1-2*zaV c k
theorem zlp (c k:Int):zaV c k=0∨zaV c k=1:=by
 unfold zaV;split<;>omega
theorem zlq (c k:Int):farOf c k=1∨farOf c k = -1:=by
 unfold farOf;rcases zlp c k with h|h<;>rw [h]<;>simp
theorem zlr (c k:Int) (w:World):Calls Tryz.prog 277 #[.int .i64 c,.int .i64 k] w fun e w'=>e=.returned (.func (.func 278) #[] #[.pointer (some ⟨w.heap.size,0,none⟩)])∧Box 3 w' w.heap.size (farOf c k)∧Below w.heap.size w w':=by
 have hb:=zlp c k;have HF:=hide (show farOf c k=1-2*zaV c k from rfl);have HB:=hide (zaZ c k);generalize zaV c k=q at hb HF HB;go_enter Tryz.func277,Tryz.ntmps277;go_wp2_with (first|(go_at_call 68;refine (HB.out _).mono ?_;rintro e w' ⟨rfl,hw⟩;subst w'));go_ret;exact ⟨rfl,by rw [HF.out];exact heap_alloc_new _ _,(Below.refl _ w).alloc (Nat.le_refl _) _⟩
theorem zrX (S r x:Int) (hS:S=1∨S = -1) (h0:0≤r) (h1:r<65536) (hx:(r+S)%65536=x) (b:Nat) (w:World) (h:Box 3 w b S):Calls Tryz.prog 278 #[.int .i64 r,.pointer (some ⟨b,0,none⟩)] w fun e w'=>e=.returned (.int .i64 x)∧w'=w:=by
 have c:=h.cell;clear h;subst hx;go_enter Tryz.func278,Tryz.ntmps278;go_wp2_with (first|(go_at_call 86;refine (zaU _ _).mono ?_;rintro e w' ⟨rfl,hw⟩;subst w'));go_ret;exact ⟨rfl,rfl⟩
theorem OnlyE.box {E:Nat→Prop} {w':World} {t:TypeId} {c:Nat} {v:Int} (h:OnlyE E w w') (k:Box t w c v) (hc:¬E c):Box t w' c v:=h.obj k hc
theorem under_name {P:Program} {c:Code} {Q:Exit→Act→World→Prop} {a:Act} (h:∀wa,wa=w→Code.wp P c Q a wa):Code.wp P c Q a w:=h w rfl
theorem two_named {wa:World} {o0 o1:Obj} (h:wa=(w.alloc o0).alloc o1):
  wa.heap[w.heap.size]? = some o0∧wa.heap[w.heap.size+1]? = some o1∧w.heap.size+1<wa.heap.size∧Below w.heap.size w wa:=by
 have e:wa.heap=(w.heap.push o0).push o1:=by rw [h];rfl
 refine ⟨?_,?_,?_,?_⟩
 ·rw [e,Array.getElem?_push,if_neg (by simp),Array.getElem?_push,if_pos rfl]
 ·rw [e,Array.getElem?_push,if_pos (by simp)]
 ·rw [e];simp
 ·rw [h];exact ((Below.refl _ w).alloc (Nat.le_refl _) _).alloc (by simp) _
theorem zvt (q:Option Addr) (e0 e1 n c A S B T:Int) (N:Nat) (x:Nat→Int) (E:Nat→Prop) (R:Nat→World→Prop) (w:World) (hA:e0%65536=A) (hB:e1%65536=B) (hS:farOf c 2=S) (hT:farOf c 3=T) (hN:n%65536+1=(N:Int))
  (hE:∀k,E k→k<w.heap.size) (h0:R 0 w) (hR:∀k w w',R k w→Below w.heap.size w w'→R k w') (hQ:∀w' g cs,w.heap.size≤g→R N w'→R N (w'.setRow g cs))
  (hw:∀k w,k<N→R k w→Calls Tryz.prog 231 #[.pointer q,.int .i64 (zbg A S k)] w fun e w'=>e=.returned (.int .i64 (x k))∧w'=w)
  (hp:∀k w,k<N→R k w→Calls Tryz.prog 275 #[.pointer q,.int .i64 (zbg B T k),.int .i64 (x k)] w fun e w'=>e=.returned (.tuple #[])∧R (k+1) w'∧OnlyE E w w'):
  Calls Tryz.prog 276 #[.pointer q,.agg #[.int .i64 e0,.int .i64 e1],.int .i64 n,.int .i64 c] w fun e w'=>e=.returned (.agg #[.int .i64 (zbg A S N),.int .i64 (zbg B T N)])∧R N w'∧OnlyE E w w':=by
 have hS2:=hide (show S=1∨S = -1 by rw [←hS];exact zlq c 2);have hT2:=hide (show T=1∨T = -1 by rw [←hT];exact zlq c 3);have GS:=hide (zlr c 2);have GT:=hide (zlr c 3);rw [hS] at GS;rw [hT] at GT;have HN:=hide hN;have hN1:(N:Int)≤65536:=by omega
 have A0:0≤A:=by omega
 have A1:A<65536:=by omega
 have B0:0≤B:=by omega
 have B1:B<65536:=by omega
 have HE:=hide hE;have HR:=hide hR;have HQ:=hide hQ;have HW:=hide hw;have HP:=hide hp;have R0:=hide h0;clear hS hT hE hR hQ hw hp h0;go_enter Tryz.func276,Tryz.ntmps276;go_wp2_with fail;refine under_name fun wa hwa=>?_
 obtain ⟨b0,b1,hs,BB⟩:=two_named hwa;have BA:=hide BB;clear hwa BB;obtain ⟨z,hz⟩:∃z,w.heap.size=z:=⟨_,rfl⟩
 rw [hz] at b0 b1 hs ⊢;have HZ:=hide hz;clear hz;have k0:=zah ((cell_of_row wa z 0 _ _ _ b0).trans rfl) (show z<wa.heap.size by omega);have k1:=zah ((cell_of_row wa z 1 _ _ _ b0).trans rfl) (show z<wa.heap.size by omega);haveI:=zax wa;refine zbn (by kernel_rfl) (by kernel_rfl) ?_
 repeat (go_big_quiet_step ((first|(go_at_call 86;exact zaF (zaU _ _)))))
 refine wpQuiet_nil ?_;rintro _ ⟨wk,rfl⟩;clear k0 k1;rw [hA,hB];clear hA hB;obtain ⟨w1,hw1⟩:∃w1,w1=wk.val:=⟨_,rfl⟩
 rw [←hw1];have KB:Below wa.heap.size wa w1:=by rw [hw1];exact wk.below
 clear hw1 wk;have W1:=hide ((KB.block (z+1) hs).trans b1);have B1':=hide (zaz BA.out KB);have S1:=hide (Nat.lt_of_lt_of_le hs KB.size);clear BA KB b0 b1 hs;go_wp2_with fail;refine (GS.out _).mono ?_;rintro e w2 ⟨rfl,x2,n2⟩;have W2:=hide ((n2.block (z+1) S1.out).trans W1.out);have B2:=hide (zaz B1'.out n2);have X2:=hide x2;have G2:=hide (show z+1<w1.heap.size from S1.out);have S2:=hide (Nat.lt_of_lt_of_le S1.out n2.size);clear x2 n2 W1 B1' S1;obtain ⟨g1,hg1⟩:∃g1,w1.heap.size=g1:=⟨_,rfl⟩
 rw [hg1] at X2 G2 ⊢;clear hg1;go_wp2_with fail;refine (GT.out _).mono ?_;rintro e w3 ⟨rfl,x3,n3⟩;have W3:=hide ((n3.block (z+1) S2.out).trans W2.out);have B3:=hide (zaz B2.out n3);have X3:=hide (X2.out.next n3);have Y3:=hide x3;have G3:=hide (show z+1<w2.heap.size from S2.out);clear x3 n3 W2 B2 X2 S2;obtain ⟨g2,hg2⟩:∃g2,w2.heap.size=g2:=⟨_,rfl⟩
 rw [hg2] at Y3 G3 ⊢;clear hg2;go_wp2_with (first|(go_at_call 86;refine (zaU _ _).mono ?_;rintro e w' ⟨rfl,hw⟩;subst w'));have P0:=zhe A S A0 A1;have Q0:=zhe B T B0 B1;go_loopw [9,10,26] (fun s9 s10 si wr=>∃(k:Nat),k≤N∧si=.int .i64 (k:Int)∧s9=.int .i64 (zbg A S k)∧s10=.int .i64 (zbg B T k)∧R k wr∧Box 3 wr g1 S∧Box 3 wr g2 T∧wr.heap[z+1]? = some (.cells #[.int .i64 0,.int .i64 0] 205 (0,0))∧OnlyE E w wr) (fun _ _ si _=>N-(intOf si).toNat)
 case atStart=>exact ⟨0,Nat.zero_le _,rfl,by rw [P0],by rw [Q0],HR.out 0 _ _ R0.out B3.out,X3.out,Y3.out,W3.out,OnlyE.of B3.out⟩
 case round=>
  obtain ⟨k,hk,rfl,rfl,rfl,hr,hx,hy,hrow,ho⟩:=hrel;have RK:=hide hr;have XK:=hide hx;have YK:=hide hy;have WK:=hide hrow;have OK:=hide ho;clear hr hx hy hrow ho W3 B3 X3 Y3 R0 P0 Q0;have E1:=hide (show ¬E g1 from fun h=>by have:=HE.out g1 h;have:=HZ.out;have:=G2.out;omega);have E2:=hide (show ¬E g2 from fun h=>by have:=HE.out g2 h;have:=HZ.out;have:=G3.out;omega);have E3:=hide (show ¬E (z+1) from fun h=>by have:=HE.out (z+1) h;have:=HZ.out;omega)
  by_cases hlt:k<N
  ·have HN1:=hide (zhd A S k);have HN2:=hide (zhd B T k);have pa0:=zeU A S k;have pa1:=zeV A S k;have pb0:=zeU B T k;have pb1:=zeV B T k;have CW:=hide (HW.out k · hlt);have CP:=hide (HP.out k · hlt);obtain ⟨a,ha⟩:∃a,zbg A S k=a:=⟨_,rfl⟩
   obtain ⟨b,hb⟩:∃b,zbg B T k=b:=⟨_,rfl⟩
   rw [ha] at HN1 pa0 pa1 CW ⊢;rw [hb] at HN2 pb0 pb1 CP ⊢;clear ha hb;go_wp2_with fail;refine (CW.out _ RK.out).mono ?_;rintro e w' ⟨rfl,hw⟩;subst w';go_wp2_with fail;refine (CP.out _ RK.out).mono ?_;rintro e w4 ⟨rfl,r4,o4⟩;have R4:=hide r4;have X4:=hide (o4.box XK.out E1.out);have Y4:=hide (o4.box YK.out E2.out);have W4:=hide (o4.obj WK.out E3.out);have O4:=hide (OK.out.trans o4);clear r4 o4 RK XK YK WK OK;go_wp2_with fail;refine (zrX S a _ hS2.out pa0 pa1 HN1.out g1 _ X4.out).mono ?_;rintro e w' ⟨rfl,hw⟩;subst w';go_wp2_with fail;refine (zrX T b _ hT2.out pb0 pb1 HN2.out g2 _ Y4.out).mono ?_;rintro e w' ⟨rfl,hw⟩;subst w';go_wp2_with fail;go_roundw
   case rel=>exact ⟨k+1,by omega,by go_num,rfl,rfl,R4.out,X4.out,Y4.out,W4.out,O4.out⟩
   case measure=>simp [intOf];omega
  ·obtain rfl:k=N:=by omega
   go_wp2_with (first|(refine wpList_store_row rfl 205 (.tmp 8) (.tmp 43) rfl (z+1) _ rfl rfl 205 _ WK.out (by kernel_rfl) rfl (by kernel_rfl) ?_));refine bodyPost_ret (results_cell_row rfl _ _ (z+1) 205 _ (0,0) _ rfl (setRow_heap _ _ _ _ _ _ WK.out) Tryz.underlying205 rfl (by kernel_rfl)) rfl ?_;exact ⟨rfl,HQ.out _ _ _ (by have:=HZ.out;omega) RK.out,OK.out.setRow (z+1) (by have:=HZ.out;omega) _⟩
theorem move_is (b:Nat) (f:Nat→Int) (wr rd st lo bu:Int) (w:World) (h:HasM w b true f wr rd st lo bu) (e0 e1 n c A S B T X Y:Int) (N:Nat) (F:Nat→Int) (hA:e0%65536=A) (hB:e1%65536=B) (hS:farOf c 2=S) (hT:farOf c 3=T) (hN:n%65536+1=(N:Int)) (hX:zbg A S N=X) (hY:zbg B T N=Y) (hF:mvTo f A S B T N=F):
  Calls Tryz.prog 276 #[.pointer (some ⟨b,0,none⟩),.agg #[.int .i64 e0,.int .i64 e1],.int .i64 n,.int .i64 c] w fun e w'=>e=.returned (.agg #[.int .i64 X,.int .i64 Y])∧HasM w' b true F wr rd st lo bu∧Only b w w':=by
 subst hX hY hF;exact zvt (some ⟨b,0,none⟩) e0 e1 n c A S B T N (fun k=>zbH (mvTo f A S B T k) (zbg A S k)) (fun k=>k=b) (fun k w=>HasM w b true (mvTo f A S B T k) wr rd st lo bu) w hA hB hS hT hN (fun k hk=>by rw [hk];exact h.lt) h (fun k w w' hh hb=>hh.next hb)
  (fun w' g cs hg hh=>(setRow_other w' g b cs (by have:=h.lt;omega)).trans hh)
  (fun k w hk hh=>zqV b _ wr rd st lo bu w hh _ _ rfl)
  (fun k w hk hh=>(zqW b _ wr rd st lo bu w hh _ _ _ (zrW f A S B T k)).mono fun e w' hh=>⟨hh.1,hh.2.1,hh.2.2⟩)
end Go.Proofs.YtdiidjehdginnaaGreatDoor.W13
namespace Go.Proofs.YtdiidjehdginnaaGreatDoor.L24
set_option maxHeartbeats 1000000
set_option maxRecDepth 20000
open B4 C3 G6 I11 J23 M5 P22 R15 T10 V12 W13
open Go.RowKit
set_option linter.unusedVariables false
variable {bs:List Int} {Z:Nat→Nat→Int}
def upZ (Z:Nat→Nat→Int) (k:Nat) (g:Nat→Int):Nat→Nat→Int:=fun i=>if i=k then g else Z i
theorem zcB (Z:Nat→Nat→Int) (k:Nat) (g:Nat→Int):upZ Z k g k=g:=by simp [upZ]
theorem zaC (Z:Nat→Nat→Int) (k i:Nat) (g:Nat→Int) (h:i≠k):upZ Z k g i=Z i:=by simp [upZ,h]
theorem upZ_id (Z:Nat→Nat→Int) (k:Nat):upZ Z k (Z k)=Z:=funext fun i=>by
 unfold upZ;split
 ·rename_i h;rw [h]
 ·rfl
def oneV (x:Int):Nat→Int:=fun _=>x
def twoV (x y:Int):Nat→Int:=fun j=>if j=0 then x else y
def isB (x:Int):Bool:=x==1
def b2i (b:Bool):Int:=if b then 1 else 0
theorem zkg (b:Bool):isB (b2i b)=b:=by cases b<;>rfl
def tvZ (g:Nat→Int):Nat→Value:=tv (g 0) (g 1) (isB (g 2)) (g 3)
def pvZ (g:Nat→Int):Nat→Value:=pv (isB (g 0)) (isB (g 1)) (isB (g 2)) (g 3)
def pcZ (g:Nat→Int):Nat→Value:=J23.pc (fun n=>g (2*n)) (fun n=>isB (g (2*n+1)))
def XP (v c:Nat) (Z:Nat→Nat→Int):List (Nat×(Nat→Value)):=
 [(21,iv (Z 0)),(1,fun _=>.pointer (some ⟨v,0,none⟩)),(256,iv (Z 2)),(1,fun _=>Value.int .i64 (Z 3 0)),(1,fun _=>.bool (isB (Z 4 0))),(1,fun _=>.bool (isB (Z 5 0))),(1,fun _=>.pointer (some ⟨c,0,none⟩)),(1,fun _=>Value.int .i64 (Z 7 0)),(8192,bv (Z 8)),(8,iv (Z 9)),(514,iv (Z 10)),(244,iv (Z 11)),(4,tvZ (Z 12)),(2,sv (Z 13 0) (Z 13 1)),(4,pvZ (Z 14)),(10,pcZ (Z 15)),(1,fun _=>Value.int .i64 (Z 16 0)),(1,fun _=>Value.int .i64 (Z 17 0))]
def advG (g:Nat→Int) (t:Int):Nat→Int:=fun j=>if j=1 then cT (g 0) (g 1) (isB (g 2)) (g 3) t else if j=3 then pT (g 0) (g 1) (isB (g 2)) (g 3) t else g j
def rndG (g:Nat→Int) (t:Int):Int:=kT (g 0) (g 1) (isB (g 2)) (g 3) t
def setZ (Z:Nat→Nat→Int):Nat→Nat→Int:=upZ (upZ (upZ Z 12 (advG (Z 12) (Z 17 0))) 13 (twoV (mT (Z 13 0) (rndG (Z 12) (Z 17 0))) (lT (Z 13 1) (rndG (Z 12) (Z 17 0))))) 17 (oneV 0)
def zdh (Z:Nat→Nat→Int):Prop:=
 (0≤Z 0 0∧Z 0 0<32)∧(∀i,i<20→0≤Z 0 (i+1)∧Z 0 (i+1)<65536)∧(0≤Z 3 0∧Z 3 0<128)∧(∀j,0≤Z 8 j∧Z 8 j<256)∧(0≤Z 10 1∧Z 10 1<512)∧(∀j,0≤Z 10 (j+2)∧Z 10 (j+2)<512)∧P22.okP (Z 11)∧okT (Z 12 0) (Z 12 1) (isB (Z 12 2)) (Z 12 3)=true∧((0≤Z 13 0∧Z 13 0<8)∧0≤Z 13 1∧Z 13 1<8)∧(0≤Z 16 0∧Z 16 0<256)∧(0≤Z 17 0∧Z 17 0≤8388608) ∧
 (∀j,0≤Z 18 j∧Z 18 j<65536)∧(0≤Z 19 0∧Z 19 0<65536)∧(0≤Z 19 1∧Z 19 1<65536)∧(1≤Z 19 2∧Z 19 2<65536)∧(0≤Z 19 3∧Z 19 3<256)∧(0≤Z 19 4∧Z 19 4<65536)∧Z 13=twoV (Z 13 0) (Z 13 1)∧Z 17=oneV (Z 17 0)
def HasP (w:World) (b v c d:Nat) (bs:List Int) (Z:Nat→Nat→Int):Prop:=HasX w b v c d (XP v c Z) bs (Z 18) (Z 19 0) (Z 19 1) (Z 19 2) (Z 19 3) (Z 19 4)
theorem HasP.next {w w':World} {b v c d:Nat} (h:HasP w b v c d bs Z) (k:Below w.heap.size w w'):HasP w' b v c d bs Z:=HasX.next h k
theorem HasP.only {E:Nat→Prop} {w w':World} {b v c d:Nat} (h:HasP w b v c d bs Z) (k:OnlyE E w w') (hb:¬E b) (hv:¬E v) (hc:¬E c) (hd:¬E d) (hE:∀i,E i→High i):HasP w' b v c d bs Z:=by
 obtain ⟨q1,q2,q3,q4,q5⟩:=h;exact ⟨k.obj q1 hb,k.obj q2 hv,q3.only k hc hd,q4.only k hE,q5⟩
theorem zls (g:Nat→Int):vF (g 0) (g 1) (fun j=>g (j+2))=g:=funext fun j=>by
 unfold vF;rcases j with _|_|j
 ·rfl
 ·rfl
 ·rw [if_neg (by omega),if_neg (by omega)];rfl
theorem znB (g:Nat→Int):gF (g 0) (fun j=>g (j+1))=g:=funext fun j=>by
 unfold gF;rcases j with _|j
 ·rfl
 ·rw [if_neg (by omega)];rfl
theorem zgH (Z:Nat→Nat→Int) (k:Nat) (g:Nat→Int) (h:k≠12∧k≠13∧k≠17):setZ (upZ Z k g)=upZ (setZ Z) k g:=by
 have h12:upZ Z k g 12=Z 12:=zaC _ _ _ _ (fun e=>h.1 e.symm);have h13:upZ Z k g 13=Z 13:=zaC _ _ _ _ (fun e=>h.2.1 e.symm);have h17:upZ Z k g 17=Z 17:=zaC _ _ _ _ (fun e=>h.2.2 e.symm);unfold setZ;rw [h12,h13,h17];funext i;unfold upZ
 by_cases e1:i=17
 ·subst e1;rw [if_pos rfl,if_neg (fun e=>h.2.2 e.symm),if_pos rfl]
 ·rw [if_neg e1]
  by_cases e2:i=13
  ·subst e2;rw [if_pos rfl,if_neg (fun e=>h.2.1 e.symm),if_neg e1,if_pos rfl]
  ·rw [if_neg e2]
   by_cases e3:i=12
   ·subst e3;rw [if_pos rfl,if_neg (fun e=>h.1 e.symm),if_neg e1,if_neg e2,if_pos rfl]
   ·rw [if_neg e3]
    by_cases e4:i=k
    ·rw [if_pos e4,if_pos e4]
    ·rw [if_neg e4,if_neg e4,if_neg e1,if_neg e2,if_neg e3]
theorem zyu (Z:Nat→Nat→Int) (i:Nat) (h:i≠12∧i≠13∧i≠17):setZ Z i=Z i:=by
 unfold setZ;rw [zaC _ _ _ _ h.2.2,zaC _ _ _ _ h.2.1,zaC _ _ _ _ h.1]
def romB (bs:List Int) (Z:Nat→Nat→Int) (p:Int):Int:=bs.getD (zde ((bs.length/8192:Nat):Int) (Z 7 0) (p/8192)*8192+p%8192).toNat 0
def zcv (Z:Nat→Nat→Int) (x:Int):Nat→Nat→Int:=upZ Z 16 (oneV x)
def zph (Z:Nat→Nat→Int):Nat→Nat→Int:=upZ (upZ Z 3 (oneV 0)) 13 (twoV (Z 13 0%8) (bic3 (Z 13 1) 2))
def zpi (a b c d e:Int):Nat→Int:=fun j=>if j=0 then a else if j=1 then b else if j=2 then c else if j=3 then d else e
def zpj (Z:Nat→Nat→Int):Nat→Nat→Int:=upZ Z 19 (zpi (Z 19 0) ((Z 19 1+Z 19 2)%65536) (Z 19 2) (Z 19 3) (zbH (Z 18) ((Z 19 1+Z 19 2)%65536)))
def vceW (g:Nat→Int) (a y:Int):Nat→Int:=
 if a=0 then vF y (g 1) (fun j=>g (j+2)) else if a=2 then vF (g 0) (g 1/256*256+y) (fun j=>g (j+2)) else if a=3 then vF (g 0) (g 1%256+y%2*256) (fun j=>g (j+2))
 else if a=4 then vF (g 0) (g 1) (V12.upd (fun j=>g (j+2)) (g 1).toNat (g ((g 1).toNat+2)/256*256+y)) else if a=5 then vF (g 0) ((g 1+1)%512) (V12.upd (fun j=>g (j+2)) (g 1).toNat (g ((g 1).toNat+2)%256+y%2*256)) else g
def vceR (g:Nat→Int) (a:Int):Int:=if a=4 then g ((g 1).toNat+2)%256 else if a=5 then 254+g ((g 1).toNat+2)/256 else 255
def vceN (g:Nat→Int) (a:Int):Nat→Int:=if a=5 then vF (g 0) ((g 1+1)%512) (fun j=>g (j+2)) else g
def timW (g:Nat→Int) (a y:Int):Nat→Int:=
 if a=0 then fun j=>if j=0 then y%128 else g j else fun j=>if j=1 then ctlC (g 0) (g 1) (isB (g 2)) (isB (y%2)) else if j=2 then y%2 else if j=3 then ctlP (g 3) (isB (g 2)) (isB (y%2)) else g j
theorem zvu {p:Int} (hk:zaH p=5):atW p=0∨atW p=1:=by
 unfold atW;rw [hk];simp;omega
def padW (g:Nat→Int) (y:Int):Nat→Int:=fun j=>if j=0 then zaV y 0 else if j=1 then zaV y 1 else if j=2 then b2i (J23.nxD (isB (g 1)) (isB (g 2)) (J23.clrB y)) else J23.nxI (isB (g 0)) (J23.selB y) (J23.clrB y) (g 3)
theorem zyv (g:Nat→Int) (y:Int):pvZ (padW g y)=pv (J23.selB y) (J23.clrB y) (J23.nxD (isB (g 1)) (isB (g 2)) (J23.clrB y)) (J23.nxI (isB (g 0)) (J23.selB y) (J23.clrB y) (g 3)):=by
 unfold pvZ;rw [show isB (padW g y 2)=J23.nxD (isB (g 1)) (isB (g 2)) (J23.clrB y) from zkg _];rfl
def irqM (m l a y:Int):Int:=if a=2 then y%8 else if a=3 then m%8 else m
def irqL (m l a y:Int):Int:=if a=2 then l%8 else if a=3 then bic3 l 4 else l
def zlt (Z:Nat→Nat→Int) (n:Int) (may:Bool):Nat→Nat→Int:=upZ (upZ Z 3 (oneV (bits .or .i64 (Z 3 0) n))) 13 (if may=true then twoV (Z 13 0%8) (or3 (Z 13 1) 2) else Z 13)
theorem zBe (s n:Int) (s0:0≤s) (s1:s<128) (hn:n=1∨n=2∨n=4∨n=8∨n=16∨n=32):(if s/n%2=0 then s+n else s)=bits .or .i64 s n∧0≤bits .or .i64 s n∧bits .or .i64 s n<128:=by
 obtain ⟨k,rfl⟩:∃k:Nat,s=(k:Int):=⟨s.toNat,by omega⟩
 have hk:k<128:=by omega
 have q:∀x:Fin 128,∀n ∈ [(1:Int),2,4,8,16,32],(if (x.val:Int)/n%2=0 then (x.val:Int)+n else (x.val:Int))=bits .or .i64 (x.val:Int) n∧0≤bits .or .i64 (x.val:Int) n∧bits .or .i64 (x.val:Int) n<128:=by decide +kernel
 exact q ⟨k,hk⟩ n (by rcases hn with rfl|rfl|rfl|rfl|rfl|rfl<;>simp)
def gW (g:Nat→Int) (a y:Int):Nat→Int:=
 if a=0 then gF (y%32) (fun j=>g (j+1)) else if (a=2∨a=3)∧g 0<20 then gF (g 0) (R15.upd (fun j=>g (j+1)) (g 0).toNat (bits .and .i64 (R15.halfOf (g ((g 0).toNat+1)) a y) (R15.mk (g 0).toNat))) else g
def effW (g:Nat→Int) (a:Int):Int:=if a=0 then 0 else if (a=2∨a=3)∧g 0<20 then R15.bringsOf (g 0) a else 0
theorem zvv (g:Nat→Int) (a y:Int) (g0:0≤g 0) (w:World) (hM:HasMask w):Calls Tryz.prog 242 #[.agg (rowF (iv g) 21),.int .i64 a,.int .i64 y] w fun e w'=>e=Ending.returned (.tuple #[.agg (rowF (iv (gW g a y)) 21),.int .i64 (effW g a)])∧Below w.heap.size w w':=by
 unfold gW effW
 conv=>arg 3;rw [←znB g,zif]
 by_cases a0:a=0
 ·subst a0;rw [if_pos rfl,if_pos rfl,zif];exact R15.write_sel (g 0) y (y%32) (fun j=>g (j+1)) rfl w
 rw [if_neg a0,if_neg a0]
 by_cases ha:(a=2∨a=3)∧g 0<20
 ·rw [if_pos ha,if_pos ha,zif];obtain ⟨i,hi⟩:∃i:Nat,g 0=(i:Int):=⟨(g 0).toNat,by omega⟩
  rw [hi,Int.toNat_natCast];exact R15.write_at i (by omega) a y _ _ _ _ (fun j=>g (j+1)) ha.1 rfl rfl rfl rfl w hM
 ·rw [if_neg ha,if_neg ha]
  conv=>arg 5;rw [←znB g,zif]
  exact R15.write_no a (g 0) y (fun j=>g (j+1)) ⟨a0,fun h=>.inr (by omega)⟩ w
def zig (Z:Nat→Nat→Int) (a y:Int):Nat→Nat→Int:=upZ (upZ Z 0 (gW (Z 0) a y)) 5 (oneV (b2i (mvB (isB (Z 5 0)) (gW (Z 0) a y 0) a)))
def zvw (Z:Nat→Nat→Int):Nat→Nat→Int:=upZ (upZ Z 18 (mvTo (Z 18) (Z 0 17%65536) (W13.farOf (Z 0 16) 2) (Z 0 18%65536) (W13.farOf (Z 0 16) 3) (Z 0 19%65536+1).toNat)) 0 (up (up (up (Z 0) 17 (zbg (Z 0 17%65536) (W13.farOf (Z 0 16) 2) (Z 0 19%65536+1).toNat)) 18 (zbg (Z 0 18%65536) (W13.farOf (Z 0 16) 3) (Z 0 19%65536+1).toNat)) 19 65535)
def zyw (Z:Nat→Nat→Int):Nat→Nat→Int:=zlt (zvw Z) 16 (isB (Z 0 16/2%2))
def effZ (Z:Nat→Nat→Int) (e y:Int):Nat→Nat→Int:=
 if e=1 then upZ Z 19 (zpi (Z 0 1) (Z 19 1) (Z 19 2) (Z 19 3) (Z 19 4))
 else if e=2 then upZ Z 19 (zpi (Z 19 0) (Z 0 2) (Z 19 2) (Z 19 3) (zbH (Z 18) (Z 0 2)))
 else if e=3 then upZ Z 19 (zpi (Z 19 0) (Z 19 1) (Z 19 2) y (Z 19 4))
 else if e=4 then upZ (upZ Z 18 (zeB (Z 18) (Z 19 0) (Z 19 3+256*y))) 19 (zpi ((Z 19 0+Z 19 2)%65536) (Z 19 1) (Z 19 2) (Z 19 3) (Z 19 4))
 else if e=5 then upZ Z 19 (zpi (Z 19 0) (Z 19 1) (R15.farOf (R15.pairOf (Z 0 6) 11)) (Z 19 3) (Z 19 4))
 else if e=6 then zyw Z
 else if e=7 then upZ Z 4 (oneV 1)
 else Z
theorem zBf (g:Nat→Int) (a:Int):0≤effW g a∧effW g a≤7:=by
 unfold effW;split
 ·omega
 split
 ·unfold R15.bringsOf;split
  ·omega
  split
  ·split<;>omega
  split
  ·omega
  split
  ·omega
  split
  ·omega
  split
  ·omega
  split<;>omega
 ·omega
end Go.Proofs.YtdiidjehdginnaaGreatDoor.L24
