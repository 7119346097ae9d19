/- Texts without a word of the program, one behind the other. -/
import Derived.Test.YtnllcknfmciebaaGreatDoorBusPlaysJ04
import Derived.Test.YtnllcknfmciebaaGreatDoorBusPlaysJ03
import Derived.Laws.StructEq
import Derived.Laws.Rows
import Derived.Laws.Tables
import Derived.Laws.ResultCell
import Derived.Laws.CopyOwn
import Derived.Deep.Quiet
import Derived.Deep.MidRow
import Derived.BigFrame
import Derived.WalkMore
import Derived.OneCell
import Derived.Handy
namespace Go.Proofs.YtnllcknfmciebaaGreatDoor.R15
set_option maxRecDepth 20000
def andW (n m:Int):Int:=(((n%65536).toNat &&& m.toNat:Nat):Int)
def IsMask (m:Int):Prop:=0≤m∧m<65536
theorem and_word (n m:Int) (h:IsMask m):bits .and .i64 n m=andW n m:=by
 obtain ⟨h0,h1⟩:=h
 obtain ⟨m,rfl⟩:=Int.eq_ofNat_of_zero_le h0
 have e:(BitVec.ofInt 64 n &&& BitVec.ofInt 64 (m:Int)).toNat=(n%65536).toNat &&& m:=by
  rw [BitVec.toNat_and,BitVec.ofInt_natCast,BitVec.toNat_ofNat,Nat.mod_eq_of_lt (by omega:m<2 ^ 64),BitVec.toNat_ofInt]
  have h2:m=m%2 ^ 16:=(Nat.mod_eq_of_lt (by omega)).symm
  have h3:(n%65536).toNat=(n%((2 ^ 64:Nat):Int)).toNat%2 ^ 16:=by omega
  rw [h3]
  generalize (n%((2 ^ 64:Nat):Int)).toNat=x
  conv=>rhs;rw [h2,←Nat.and_mod_two_pow]
  exact (Nat.mod_eq_of_lt (Nat.and_lt_two_pow _ (by omega))).symm
 show IntKind.i64.wrap ((BitVec.ofInt 64 n &&& BitVec.ofInt 64 (m:Int)).toNat:Nat)=_
 rw [e]
 have hl:=Nat.and_lt_two_pow (n%65536).toNat (n:=16) (y:=m) (by omega)
 rw [i64_small _ (by omega) (by omega)]
 unfold andW
 simp
def onlyTo (n m:Int):Nat→Int
 |0=>0
 |k+1=>onlyTo n m k+bitOf n k*bitOf m k*2 ^ k
theorem only_mod (n m:Int) (h:IsMask m):∀k:Nat,k≤16→onlyTo n m k=((((n%65536).toNat &&& m.toNat)%2 ^ k:Nat):Int)
 |0,_=>by simp [onlyTo,Nat.mod_one]
 |k+1,hk=>by
  have ih:=only_mod n m h k (by omega)
  have b1:=bitOf_test n k (by omega) (by omega)
  have b2:=bitOf_test m k (by omega) (by omega)
  have hm:m%65536=m:=Int.emod_eq_of_lt h.1 h.2
  rw [hm] at b2
  simp only [Int.toNat_natCast] at b1 b2
  simp only [onlyTo]
  rw [ih,b1,b2,Nat.mod_pow_succ,←Nat.toNat_testBit,Nat.testBit_and]
  by_cases c1:(n%65536).toNat.testBit k=true<;>by_cases c2:m.toNat.testBit k=true<;>simp [c1,c2]
theorem only_16 (n m:Int) (h:IsMask m):onlyTo n m 16=andW n m:=by
 rw [only_mod n m h 16 (by omega),Nat.mod_eq_of_lt (Nat.and_lt_two_pow _ (by have:=h.1;have:=h.2;omega))]
 rfl
theorem only_le (n m:Int):∀k:Nat,k≤16→0≤onlyTo n m k∧onlyTo n m k<2 ^ k
 |0,_=>by simp [onlyTo]
 |k+1,hk=>by
  have ih:=only_le n m k (by omega)
  have b1:=bitOf_01 n k
  have b2:=bitOf_01 m k
  have e:(2:Int) ^ (k+1)=2 ^ k*2:=by rw [Int.pow_succ]
  simp only [onlyTo,e]
  have c1:bitOf n k=0∨bitOf n k=1:=by omega
  have c2:bitOf m k=0∨bitOf m k=1:=by omega
  rcases c1 with c1|c1<;>rcases c2 with c2|c2<;>rw [c1,c2]<;>omega
def lowOf (n b:Int):Int:=b%256+256*(n/256%256)
def highOf (n b:Int):Int:=n%256+256*(b%256)
def maskL:List Int:=[65535,65535,65535,0,0,8191,1023,1023,511,255,32543,32639,65311,511,255,31,65535,65535,65535,65535]
def mk (k:Nat):Int:=maskL.getD k 0
theorem mk_all:∀k:Fin 20,0≤mk k.val∧mk k.val<65536∧andW (highOf (andW (lowOf 0 255) (mk k.val)) 255) (mk k.val)=mk k.val:=by decide +kernel
theorem mk_mask (k:Nat):IsMask (mk k):=by
 by_cases h:k<20
 ·have:=mk_all ⟨k,h⟩
  exact ⟨this.1,this.2.1⟩
 ·have e:mk k=0:=by
   unfold mk
   rw [List.getD_eq_getElem?_getD,List.getElem?_eq_none (by simp [maskL];omega)]
   rfl
  rw [e]
  exact ⟨by decide,by decide⟩
end Go.Proofs.YtnllcknfmciebaaGreatDoor.R15
namespace Go.Proofs.YtnllcknfmciebaaGreatDoor.R15
set_option maxRecDepth 20000
open Go.RowKit
set_option linter.unusedVariables false
def rowG (s:Int) (f:Nat→Int):Array Value:=(.int .i64 s::(List.range 20).map fun j=>Value.int .i64 (f j)).toArray
theorem rowG_size (s:Int) (f:Nat→Int):(rowG s f).size=21:=by simp [rowG]
theorem rowG_0 (s:Int) (f:Nat→Int):(rowG s f)[0]? = some (.int .i64 s):=by simp [rowG]
theorem rowG_at (s:Int) (f:Nat→Int) (j:Nat) (h:j<20):(rowG s f)[1+j]? = some (.int .i64 (f j)):=by
 rw [show 1+j=j+1 by omega]
 simp [rowG,h]
def HasG (T:TypeId) (w:World) (b:Nat) (s:Int) (f:Nat→Int):Prop:=w.heap[b]? = some (.cells (rowG s f) T (0,0))
theorem HasG.next {T:TypeId} {w w':World} {b:Nat} {s:Int} {f:Nat→Int} (h:HasG T w b s f) (k:Below w.heap.size w w'):HasG T w' b s f:=(k.block b (lt_of_block h)).trans h
theorem HasG.alloc {T:TypeId} {w:World} {b:Nat} {s:Int} {f:Nat→Int} (h:HasG T w b s f) (x:Obj):HasG T (w.alloc x) b s f:=h.next ((Below.refl _ w).alloc (Nat.le_refl _) _)
theorem hasG_new (T:TypeId) (w:World) (s:Int) (f:Nat→Int):HasG T (w.alloc (.cells (rowG s f) T)) w.heap.size s f:=heap_alloc_new _ _
theorem HasG.lt {T:TypeId} {w:World} {b:Nat} {s:Int} {f:Nat→Int} (h:HasG T w b s f):b<w.heap.size:=lt_of_block h
theorem HasG.c0 {T:TypeId} {w:World} {b:Nat} {s:Int} {f:Nat→Int} (h:HasG T w b s f):w.cell? ⟨b,0,none⟩=some (.int .i64 s):=(cell_of_row w b 0 _ _ _ h).trans (rowG_0 s f)
theorem HasG.at {T:TypeId} {w:World} {b:Nat} {s:Int} {f:Nat→Int} (h:HasG T w b s f) (j:Nat) (hj:j<20):w.cell? ⟨b,1+j,none⟩=some (.int .i64 (f j)):=(cell_of_row w b (1+j) _ _ _ h).trans (rowG_at s f j hj)
theorem HasG.frozen {T:TypeId} {w:World} {b:Nat} {s:Int} {f:Nat→Int} (h:HasG T w b s f) (j:Nat):w.frozen? ⟨b,j,none⟩=false:=frozen_of_row w b j _ _ h
def upd (f:Nat→Int) (i:Nat) (v:Int):Nat→Int:=fun j=>if j=i then v else f j
theorem rowG_set0 (s x:Int) (f:Nat→Int):(rowG s f).setIfInBounds 0 (.int .i64 x)=rowG x f:=by
 unfold rowG
 rw [List.setIfInBounds_toArray]
 rfl
theorem map_set (N i:Nat) (x:Int) (f:Nat→Int):((List.range N).map fun j=>Value.int .i64 (f j)).set i (.int .i64 x)=(List.range N).map fun j=>Value.int .i64 (upd f i x j):=by
 apply List.ext_getElem?
 intro j
 rw [List.getElem?_set]
 simp only [List.getElem?_map,List.length_map,List.length_range]
 by_cases h:i=j
 ·subst h
  by_cases k:i<N
  ·simp [k,upd]
  ·simp [k]
 ·rw [if_neg h]
  by_cases k:j<N
  ·simp [k,upd,show ¬j=i from fun e=>h e.symm]
  ·simp [k]
theorem rowG_set (s x:Int) (f:Nat→Int) (i:Nat):(rowG s f).setIfInBounds (1+i) (.int .i64 x)=rowG s (upd f i x):=by
 unfold rowG
 rw [List.setIfInBounds_toArray,show 1+i=i+1 by omega,List.set_cons_succ,map_set]
theorem rowG_one (s:Int) (f:Nat→Int):(rowG s f).all (·.oneCell')=true:=by
 unfold rowG
 rw [←Array.all_toList]
 simp [Value.oneCell']
theorem HasG.set0 {T:TypeId} {w:World} {b:Nat} {s:Int} {f:Nat→Int} (h:HasG T w b s f) (x:Int):HasG T (w.setCell ⟨b,0,none⟩ (.int .i64 x)) b x f:=by
 have k:=heap_setCell_same w b 0 _ _ (.int .i64 x) h
 rw [rowG_set0] at k
 exact k
theorem HasG.set {T:TypeId} {w:World} {b:Nat} {s:Int} {f:Nat→Int} (h:HasG T w b s f) (i:Nat) (x:Int):HasG T (w.setCell ⟨b,1+i,none⟩ (.int .i64 x)) b s (upd f i x):=by
 have k:=heap_setCell_same w b (1+i) _ _ (.int .i64 x) h
 rw [rowG_set] at k
 exact k
theorem zero_lit:(#[.int .i64 0,.int .i64 0,.int .i64 0,.int .i64 0,.int .i64 0,.int .i64 0,.int .i64 0,.int .i64 0,.int .i64 0,.int .i64 0,.int .i64 0,.int .i64 0,.int .i64 0,.int .i64 0,.int .i64 0,.int .i64 0,.int .i64 0,.int .i64 0,.int .i64 0,.int .i64 0,.int .i64 0]:Array Value)=rowG 0 (fun _=>0):=rfl
theorem info_G (s:Int) (f:Nat→Int):(Tryz.prog.info? 36).map (·.size)=some (rowG s f).size:=by
 rw [rowG_size]
 kernel_rfl
def listG (f:Nat→Int):List Int:=(List.range 20).map f
theorem size_int (w:World):(sizeOf 3).run Tryz.prog w=.ok 1 w:=by
 have h:(Tryz.prog.info? 3).map (·.size)=some 1:=by kernel_rfl
 cases hq:Tryz.prog.info? 3 with
 |none=>rw [hq] at h;cases h
 |some i=>
  rw [hq] at h
  have:i.size=1:=by simpa using h
  simp [sizeOf,typeInfo,hq,this]
theorem wpList_load_want {P:Program} {ops:Array Oper} {rest:List Oper} {o:Oper} {a:Act} {w:World} {Q:Exit→Act→World→Prop} (hw:Region.wanted o (yielded ops a.tmps)=true) (ty:TypeId) (x:Operand) (ho:o.op=.load ty x)
  (g:Nat) (hx:a.eval x=.pointer (some ⟨g,0,none⟩)) (t:TypeId) (cs:Array Value) (fr:Nat×Nat) (d:TypeDesc) (hg:w.heap[g]? = some (.cells cs t fr))
  (hu:P.underlying ty=some d) (hd:(match d with|.struct _|.array _ _=>true|_=>false)=true) (hi:(P.info? ty).map (·.size)=some cs.size)
  (h:wpList P ops Q rest (a.put o.dst (.agg cs)) w):wpList P ops Q (o::rest) a w:=
 BigFrame.wpList_want hw fun _ hK=>wp_load_row ty x ho g hx t cs fr d hg hu hd hi (hK _ _ h)
theorem wpQuiet_row {P:Program} {ops:Array Oper} {C:World→Prop} {Q:Act→Prop} {a:Act} {o:Oper} {rest:List Oper} (hw:Region.wanted o (yielded ops a.tmps)=true) (ty:TypeId) (x:Operand) (ho:o.op=.load ty x)
  (g:Nat) (hx:a.eval x=.pointer (some ⟨g,0,none⟩)) (t:TypeId) (cs:Array Value) (fr:Nat×Nat) (d:TypeDesc) (hg:∀w,C w→w.heap[g]? = some (.cells cs t fr))
  (hu:P.underlying ty=some d) (hd:(match d with|.struct _|.array _ _=>true|_=>false)=true) (hi:(P.info? ty).map (·.size)=some cs.size)
  (h:wpQuiet P ops C Q rest (a.put o.dst (.agg cs))):wpQuiet P ops C Q (o::rest) a:=by
 unfold wpQuiet
 rw [if_pos hw]
 refine ⟨.agg cs,fun w hC=>?_,h⟩
 unfold Oper.quietAt execOp
 simp only [ho,hx,Instr.loadAt,Instr.sureAddr,Sem.run_bind,Sem.run_pure,Result.andThen_ok,run_loadVar_row w g t ty cs fr d (hg w hC) hu hd hi]
 exact ⟨rfl,rfl⟩
theorem tab_index (f:Nat→Int) (k:Nat) (hk:k<20) (w:World):(Instr.index 34 (.agg ((listG f).map (Value.int .i64)).toArray) (.int .i64 (k:Int))).run Tryz.prog w=.ok (.int .i64 (f k)) w:=by
 have e:((listG f).map (Value.int .i64)).toArray[k]? = some (.int .i64 (f k)):=by simp [listG,hk]
 have h0:(0:Int)≤k∧(k:Int)<((20:Nat):Int):=by omega
 have h1:(k:Int)<20:=by omega
 have hs:=size_int w
 generalize ((listG f).map (Value.int .i64)).toArray=cs at e ⊢
 simp only [Instr.index,asIntOf,part]
 simp only [run_underlying Tryz.underlying34,Sem.run_bind,Result.andThen]
 simp [h0,h1,hs,e,isAgg,run_underlying Tryz.underlying3,Result.andThen]
end Go.Proofs.YtnllcknfmciebaaGreatDoor.R15
namespace Go.Proofs.YtnllcknfmciebaaGreatDoor.R15
set_option maxRecDepth 20000
open Go.RowKit
set_option linter.unusedVariables false
def maskCells:Array Value:=(maskL.map (Value.int .i64)).toArray
def HasMask (w:World):Prop:=∃t fr,w.heap[3]? = some (.cells maskCells t fr)
theorem HasMask.pos {w:World} (h:HasMask w):3<w.heap.size:=by
 obtain ⟨t,fr,e⟩:=h
 exact lt_of_block e
theorem HasMask.next {w w':World} (h:HasMask w) (b:Below w.heap.size w w'):HasMask w':=by
 have k:=h.pos
 obtain ⟨t,fr,e⟩:=h
 exact ⟨t,fr,(b.block 3 k).trans e⟩
theorem mask_cell:∀k:Fin 20,maskL[k.val]? = some (mk k.val):=by decide +kernel
theorem HasMask.at {w:World} (h:HasMask w) (k:Nat) (hk:k<20):w.cell? ⟨3,k,none⟩=some (.int .i64 (mk k)):=by
 obtain ⟨t,fr,e⟩:=h
 rw [cell_of_row w 3 k _ _ _ e]
 have:=mask_cell ⟨k,hk⟩
 simp only at this
 simp [maskCells,this]
def halfOf (n a b:Int):Int:=if a=2 then lowOf n b else highOf n b
theorem half_any (n a b x:Int) (hx:halfOf n a b=x) (w:World):Calls Tryz.prog 126 #[.int .i64 n,.int .i64 a,.int .i64 b] w fun e w'=>e=.returned (.int .i64 x)∧Below w.heap.size w w':=by
 unfold halfOf lowOf highOf at hx
 have HX:=hide hx
 clear hx
 by_cases h:a=2
 ·have HH:=hide h
  go_enter Tryz.func126,Tryz.ntmps126
  go_wp2_with (first|(go_at_call 121;refine (split_any _ _).mono ?_;rintro e w' ⟨rfl,hw⟩;subst w')|(go_at_call 133;refine (join_any _ _ _).mono ?_;rintro e w' ⟨rfl,bw⟩))
  go_ret
  exact ⟨ret_int (by rw [←HX.out,if_pos HH.out]),bw⟩
 ·have HH:=hide h
  go_enter Tryz.func126,Tryz.ntmps126
  go_wp2_with (first|(go_at_call 121;refine (split_any _ _).mono ?_;rintro e w' ⟨rfl,hw⟩;subst w')|(go_at_call 133;refine (join_any _ _ _).mono ?_;rintro e w' ⟨rfl,bw⟩))
  go_ret
  exact ⟨ret_int (by rw [←HX.out,if_neg HH.out]),bw⟩
def bringsOf (s a:Int):Int:=if s=0 then 1 else if a=2 then (if s=2 then 3 else 0) else if s=1 then 2 else if s=2 then 4 else if s=5 then 5 else if s=18 then 6 else if s=19 then 7 else 0
theorem brings_any (s a x:Int) (hx:bringsOf s a=x) (w:World):Calls Tryz.prog 127 #[.int .i64 s,.int .i64 a] w fun e w'=>e=.returned (.int .i64 x)∧w'=w:=by
 unfold bringsOf at hx
 have HX:=hide hx
 clear hx
 by_cases h0:s=0
 ·rw [if_pos h0] at HX
  subst h0
  go_enter Tryz.func127,Tryz.ntmps127
  go_wp2
  go_ret
  exact ⟨ret_int HX.out,rfl⟩
 ·rw [if_neg h0] at HX
  by_cases ha:a=2
  ·rw [if_pos ha] at HX
   subst ha
   by_cases h2:s=2
   ·rw [if_pos h2] at HX
    subst h2
    go_enter Tryz.func127,Tryz.ntmps127
    go_wp2
    go_ret
    exact ⟨ret_int HX.out,rfl⟩
   ·rw [if_neg h2] at HX
    go_enter Tryz.func127,Tryz.ntmps127
    go_wp2
    go_ret
    exact ⟨ret_int HX.out,rfl⟩
  ·rw [if_neg ha] at HX
   have ha2:(a==2)=false:=by simpa using ha
   by_cases h1:s=1
   ·subst h1
    go_enter Tryz.func127,Tryz.ntmps127
    go_wp2
    go_ret
    exact ⟨ret_int HX.out,rfl⟩
   ·by_cases h2:s=2
    ·subst h2
     go_enter Tryz.func127,Tryz.ntmps127
     go_wp2
     go_ret
     exact ⟨ret_int HX.out,rfl⟩
    ·by_cases h5:s=5
     ·subst h5
      go_enter Tryz.func127,Tryz.ntmps127
      go_wp2
      go_ret
      exact ⟨ret_int HX.out,rfl⟩
     ·by_cases h8:s=18
      ·subst h8
       go_enter Tryz.func127,Tryz.ntmps127
       go_wp2
       go_ret
       exact ⟨ret_int HX.out,rfl⟩
      ·by_cases h9:s=19
       ·subst h9
        go_enter Tryz.func127,Tryz.ntmps127
        go_wp2
        go_ret
        exact ⟨ret_int HX.out,rfl⟩
       ·rw [if_neg h1,if_neg h2,if_neg h5,if_neg h8,if_neg h9] at HX
        go_enter Tryz.func127,Tryz.ntmps127
        go_wp2
        go_ret
        exact ⟨ret_int HX.out,rfl⟩
end Go.Proofs.YtnllcknfmciebaaGreatDoor.R15
namespace Go.Proofs.YtnllcknfmciebaaGreatDoor.R15
set_option maxRecDepth 20000
open Go.RowKit
set_option linter.unusedVariables false
theorem and_31 (n:Int):bits .and .i64 n 31=n%32:=and_mask 5 (by decide) n
theorem write_sel (s b x:Int) (f:Nat→Int) (hx:b%32=x) (w:World):Calls Tryz.prog 89 #[.agg (rowG s f),.int .i64 0,.int .i64 b] w fun e w'=>e=.returned (.tuple #[.agg (rowG x f),.int .i64 0])∧Below w.heap.size w w':=by
 have e5:=and_31 b
 rw [hx] at e5
 clear hx
 have V0:=(hasG_new 36 w s f).alloc (.cells #[.int .i64 0,.int .i64 0,.int .i64 0,.int .i64 0,.int .i64 0,.int .i64 0,.int .i64 0,.int .i64 0,.int .i64 0,.int .i64 0,.int .i64 0,.int .i64 0,.int .i64 0,.int .i64 0,.int .i64 0,.int .i64 0,.int .i64 0,.int .i64 0,.int .i64 0,.int .i64 0,.int .i64 0] 36)
 have Z0:=heap_alloc2_new w (.cells (rowG s f) 36) (.cells #[.int .i64 0,.int .i64 0,.int .i64 0,.int .i64 0,.int .i64 0,.int .i64 0,.int .i64 0,.int .i64 0,.int .i64 0,.int .i64 0,.int .i64 0,.int .i64 0,.int .i64 0,.int .i64 0,.int .i64 0,.int .i64 0,.int .i64 0,.int .i64 0,.int .i64 0,.int .i64 0,.int .i64 0] 36)
 have B0:=((Below.refl _ w).alloc (Nat.le_refl _) (.cells (rowG s f) 36)).alloc (by simp) (.cells #[.int .i64 0,.int .i64 0,.int .i64 0,.int .i64 0,.int .i64 0,.int .i64 0,.int .i64 0,.int .i64 0,.int .i64 0,.int .i64 0,.int .i64 0,.int .i64 0,.int .i64 0,.int .i64 0,.int .i64 0,.int .i64 0,.int .i64 0,.int .i64 0,.int .i64 0,.int .i64 0,.int .i64 0] 36)
 have c0:=V0.c0
 have z0:=V0.frozen 0
 clear V0 Z0 B0
 have hr:=rowG_set0 s x f
 have V1:=hide ((hasG_new 36 w x f).alloc (.cells #[.int .i64 0,.int .i64 0,.int .i64 0,.int .i64 0,.int .i64 0,.int .i64 0,.int .i64 0,.int .i64 0,.int .i64 0,.int .i64 0,.int .i64 0,.int .i64 0,.int .i64 0,.int .i64 0,.int .i64 0,.int .i64 0,.int .i64 0,.int .i64 0,.int .i64 0,.int .i64 0,.int .i64 0] 36))
 have Z1:=hide (heap_alloc2_new w (.cells (rowG x f) 36) (.cells #[.int .i64 0,.int .i64 0,.int .i64 0,.int .i64 0,.int .i64 0,.int .i64 0,.int .i64 0,.int .i64 0,.int .i64 0,.int .i64 0,.int .i64 0,.int .i64 0,.int .i64 0,.int .i64 0,.int .i64 0,.int .i64 0,.int .i64 0,.int .i64 0,.int .i64 0,.int .i64 0,.int .i64 0] 36))
 have B1:=hide (((Below.refl _ w).alloc (Nat.le_refl _) (.cells (rowG x f) 36)).alloc (by simp) (.cells #[.int .i64 0,.int .i64 0,.int .i64 0,.int .i64 0,.int .i64 0,.int .i64 0,.int .i64 0,.int .i64 0,.int .i64 0,.int .i64 0,.int .i64 0,.int .i64 0,.int .i64 0,.int .i64 0,.int .i64 0,.int .i64 0,.int .i64 0,.int .i64 0,.int .i64 0,.int .i64 0,.int .i64 0] 36))
 go_enter Tryz.func89,Tryz.ntmps89
 go_wp2_with (first
  |(refine wpList_load_row rfl 36 (.tmp 3) rfl w.heap.size rfl 36 _ (0,0) _ V1.out Tryz.underlying36 rfl (info_G _ _) ?_)
  |(refine wpList_store_row rfl 36 (.tmp 6) (.tmp 14) rfl (w.heap.size+1) _ rfl rfl 36 _ Z1.out (info_G _ _) (by rw [rowG_size];rfl) (rowG_one _ _) ?_)
  |(refine bodyPost_ret (results_agg_tmp rfl _ _ (w.heap.size+1) 36 _ (0,0) _ rfl (setRow_heap _ _ _ _ _ _ Z1.out) Tryz.underlying36 rfl (info_G _ _)) rfl ⟨rfl,below_setRow B1.out (Nat.le_succ _) _⟩))
theorem write_no (a s b:Int) (f:Nat→Int) (h:a≠0∧(a=2∨a=3→s<0∨20≤s)) (w:World):Calls Tryz.prog 89 #[.agg (rowG s f),.int .i64 a,.int .i64 b] w fun e w'=>e=.returned (.tuple #[.agg (rowG s f),.int .i64 0])∧Below w.heap.size w w':=by
 obtain ⟨h0,hs⟩:=h
 by_cases h2:a=2
 ·subst h2
  rcases hs (.inl rfl) with k|k
  ·clear hs
   have V0:=(hasG_new 36 w s f).alloc (.cells #[.int .i64 0,.int .i64 0,.int .i64 0,.int .i64 0,.int .i64 0,.int .i64 0,.int .i64 0,.int .i64 0,.int .i64 0,.int .i64 0,.int .i64 0,.int .i64 0,.int .i64 0,.int .i64 0,.int .i64 0,.int .i64 0,.int .i64 0,.int .i64 0,.int .i64 0,.int .i64 0,.int .i64 0] 36)
   have Z0:=heap_alloc2_new w (.cells (rowG s f) 36) (.cells #[.int .i64 0,.int .i64 0,.int .i64 0,.int .i64 0,.int .i64 0,.int .i64 0,.int .i64 0,.int .i64 0,.int .i64 0,.int .i64 0,.int .i64 0,.int .i64 0,.int .i64 0,.int .i64 0,.int .i64 0,.int .i64 0,.int .i64 0,.int .i64 0,.int .i64 0,.int .i64 0,.int .i64 0] 36)
   have B0:=((Below.refl _ w).alloc (Nat.le_refl _) (.cells (rowG s f) 36)).alloc (by simp) (.cells #[.int .i64 0,.int .i64 0,.int .i64 0,.int .i64 0,.int .i64 0,.int .i64 0,.int .i64 0,.int .i64 0,.int .i64 0,.int .i64 0,.int .i64 0,.int .i64 0,.int .i64 0,.int .i64 0,.int .i64 0,.int .i64 0,.int .i64 0,.int .i64 0,.int .i64 0,.int .i64 0,.int .i64 0] 36)
   have c0:=V0.c0
   have z0:=V0.frozen 0
   have V1:=hide V0
   have Z1:=hide Z0
   have B1:=hide B0
   clear V0 Z0 B0
   go_enter Tryz.func89,Tryz.ntmps89
   go_wp2_with (first
    |(refine wpList_load_row rfl 36 (.tmp 3) rfl w.heap.size rfl 36 _ (0,0) _ V1.out Tryz.underlying36 rfl (info_G _ _) ?_)
    |(refine wpList_store_row rfl 36 (.tmp 6) (.tmp 48) rfl (w.heap.size+1) _ rfl rfl 36 _ Z1.out (info_G _ _) (by rw [rowG_size];rfl) (rowG_one _ _) ?_)
    |(refine bodyPost_ret (results_agg_tmp rfl _ _ (w.heap.size+1) 36 _ (0,0) _ rfl (setRow_heap _ _ _ _ _ _ Z1.out) Tryz.underlying36 rfl (info_G _ _)) rfl ⟨rfl,below_setRow B1.out (Nat.le_succ _) _⟩))
  ·clear hs
   have V0:=(hasG_new 36 w s f).alloc (.cells #[.int .i64 0,.int .i64 0,.int .i64 0,.int .i64 0,.int .i64 0,.int .i64 0,.int .i64 0,.int .i64 0,.int .i64 0,.int .i64 0,.int .i64 0,.int .i64 0,.int .i64 0,.int .i64 0,.int .i64 0,.int .i64 0,.int .i64 0,.int .i64 0,.int .i64 0,.int .i64 0,.int .i64 0] 36)
   have Z0:=heap_alloc2_new w (.cells (rowG s f) 36) (.cells #[.int .i64 0,.int .i64 0,.int .i64 0,.int .i64 0,.int .i64 0,.int .i64 0,.int .i64 0,.int .i64 0,.int .i64 0,.int .i64 0,.int .i64 0,.int .i64 0,.int .i64 0,.int .i64 0,.int .i64 0,.int .i64 0,.int .i64 0,.int .i64 0,.int .i64 0,.int .i64 0,.int .i64 0] 36)
   have B0:=((Below.refl _ w).alloc (Nat.le_refl _) (.cells (rowG s f) 36)).alloc (by simp) (.cells #[.int .i64 0,.int .i64 0,.int .i64 0,.int .i64 0,.int .i64 0,.int .i64 0,.int .i64 0,.int .i64 0,.int .i64 0,.int .i64 0,.int .i64 0,.int .i64 0,.int .i64 0,.int .i64 0,.int .i64 0,.int .i64 0,.int .i64 0,.int .i64 0,.int .i64 0,.int .i64 0,.int .i64 0] 36)
   have c0:=V0.c0
   have z0:=V0.frozen 0
   have V1:=hide V0
   have Z1:=hide Z0
   have B1:=hide B0
   clear V0 Z0 B0
   go_enter Tryz.func89,Tryz.ntmps89
   go_wp2_with (first
    |(refine wpList_load_row rfl 36 (.tmp 3) rfl w.heap.size rfl 36 _ (0,0) _ V1.out Tryz.underlying36 rfl (info_G _ _) ?_)
    |(refine wpList_store_row rfl 36 (.tmp 6) (.tmp 48) rfl (w.heap.size+1) _ rfl rfl 36 _ Z1.out (info_G _ _) (by rw [rowG_size];rfl) (rowG_one _ _) ?_)
    |(refine bodyPost_ret (results_agg_tmp rfl _ _ (w.heap.size+1) 36 _ (0,0) _ rfl (setRow_heap _ _ _ _ _ _ Z1.out) Tryz.underlying36 rfl (info_G _ _)) rfl ⟨rfl,below_setRow B1.out (Nat.le_succ _) _⟩))
 ·by_cases h3:a=3
  ·subst h3
   rcases hs (.inr rfl) with k|k
   ·clear hs
    have V0:=(hasG_new 36 w s f).alloc (.cells #[.int .i64 0,.int .i64 0,.int .i64 0,.int .i64 0,.int .i64 0,.int .i64 0,.int .i64 0,.int .i64 0,.int .i64 0,.int .i64 0,.int .i64 0,.int .i64 0,.int .i64 0,.int .i64 0,.int .i64 0,.int .i64 0,.int .i64 0,.int .i64 0,.int .i64 0,.int .i64 0,.int .i64 0] 36)
    have Z0:=heap_alloc2_new w (.cells (rowG s f) 36) (.cells #[.int .i64 0,.int .i64 0,.int .i64 0,.int .i64 0,.int .i64 0,.int .i64 0,.int .i64 0,.int .i64 0,.int .i64 0,.int .i64 0,.int .i64 0,.int .i64 0,.int .i64 0,.int .i64 0,.int .i64 0,.int .i64 0,.int .i64 0,.int .i64 0,.int .i64 0,.int .i64 0,.int .i64 0] 36)
    have B0:=((Below.refl _ w).alloc (Nat.le_refl _) (.cells (rowG s f) 36)).alloc (by simp) (.cells #[.int .i64 0,.int .i64 0,.int .i64 0,.int .i64 0,.int .i64 0,.int .i64 0,.int .i64 0,.int .i64 0,.int .i64 0,.int .i64 0,.int .i64 0,.int .i64 0,.int .i64 0,.int .i64 0,.int .i64 0,.int .i64 0,.int .i64 0,.int .i64 0,.int .i64 0,.int .i64 0,.int .i64 0] 36)
    have c0:=V0.c0
    have z0:=V0.frozen 0
    have V1:=hide V0
    have Z1:=hide Z0
    have B1:=hide B0
    clear V0 Z0 B0
    go_enter Tryz.func89,Tryz.ntmps89
    go_wp2_with (first
     |(refine wpList_load_row rfl 36 (.tmp 3) rfl w.heap.size rfl 36 _ (0,0) _ V1.out Tryz.underlying36 rfl (info_G _ _) ?_)
     |(refine wpList_store_row rfl 36 (.tmp 6) (.tmp 48) rfl (w.heap.size+1) _ rfl rfl 36 _ Z1.out (info_G _ _) (by rw [rowG_size];rfl) (rowG_one _ _) ?_)
     |(refine bodyPost_ret (results_agg_tmp rfl _ _ (w.heap.size+1) 36 _ (0,0) _ rfl (setRow_heap _ _ _ _ _ _ Z1.out) Tryz.underlying36 rfl (info_G _ _)) rfl ⟨rfl,below_setRow B1.out (Nat.le_succ _) _⟩))
   ·clear hs
    have V0:=(hasG_new 36 w s f).alloc (.cells #[.int .i64 0,.int .i64 0,.int .i64 0,.int .i64 0,.int .i64 0,.int .i64 0,.int .i64 0,.int .i64 0,.int .i64 0,.int .i64 0,.int .i64 0,.int .i64 0,.int .i64 0,.int .i64 0,.int .i64 0,.int .i64 0,.int .i64 0,.int .i64 0,.int .i64 0,.int .i64 0,.int .i64 0] 36)
    have Z0:=heap_alloc2_new w (.cells (rowG s f) 36) (.cells #[.int .i64 0,.int .i64 0,.int .i64 0,.int .i64 0,.int .i64 0,.int .i64 0,.int .i64 0,.int .i64 0,.int .i64 0,.int .i64 0,.int .i64 0,.int .i64 0,.int .i64 0,.int .i64 0,.int .i64 0,.int .i64 0,.int .i64 0,.int .i64 0,.int .i64 0,.int .i64 0,.int .i64 0] 36)
    have B0:=((Below.refl _ w).alloc (Nat.le_refl _) (.cells (rowG s f) 36)).alloc (by simp) (.cells #[.int .i64 0,.int .i64 0,.int .i64 0,.int .i64 0,.int .i64 0,.int .i64 0,.int .i64 0,.int .i64 0,.int .i64 0,.int .i64 0,.int .i64 0,.int .i64 0,.int .i64 0,.int .i64 0,.int .i64 0,.int .i64 0,.int .i64 0,.int .i64 0,.int .i64 0,.int .i64 0,.int .i64 0] 36)
    have c0:=V0.c0
    have z0:=V0.frozen 0
    have V1:=hide V0
    have Z1:=hide Z0
    have B1:=hide B0
    clear V0 Z0 B0
    go_enter Tryz.func89,Tryz.ntmps89
    go_wp2_with (first
     |(refine wpList_load_row rfl 36 (.tmp 3) rfl w.heap.size rfl 36 _ (0,0) _ V1.out Tryz.underlying36 rfl (info_G _ _) ?_)
     |(refine wpList_store_row rfl 36 (.tmp 6) (.tmp 48) rfl (w.heap.size+1) _ rfl rfl 36 _ Z1.out (info_G _ _) (by rw [rowG_size];rfl) (rowG_one _ _) ?_)
     |(refine bodyPost_ret (results_agg_tmp rfl _ _ (w.heap.size+1) 36 _ (0,0) _ rfl (setRow_heap _ _ _ _ _ _ Z1.out) Tryz.underlying36 rfl (info_G _ _)) rfl ⟨rfl,below_setRow B1.out (Nat.le_succ _) _⟩))
  ·clear hs
   have V0:=(hasG_new 36 w s f).alloc (.cells #[.int .i64 0,.int .i64 0,.int .i64 0,.int .i64 0,.int .i64 0,.int .i64 0,.int .i64 0,.int .i64 0,.int .i64 0,.int .i64 0,.int .i64 0,.int .i64 0,.int .i64 0,.int .i64 0,.int .i64 0,.int .i64 0,.int .i64 0,.int .i64 0,.int .i64 0,.int .i64 0,.int .i64 0] 36)
   have Z0:=heap_alloc2_new w (.cells (rowG s f) 36) (.cells #[.int .i64 0,.int .i64 0,.int .i64 0,.int .i64 0,.int .i64 0,.int .i64 0,.int .i64 0,.int .i64 0,.int .i64 0,.int .i64 0,.int .i64 0,.int .i64 0,.int .i64 0,.int .i64 0,.int .i64 0,.int .i64 0,.int .i64 0,.int .i64 0,.int .i64 0,.int .i64 0,.int .i64 0] 36)
   have B0:=((Below.refl _ w).alloc (Nat.le_refl _) (.cells (rowG s f) 36)).alloc (by simp) (.cells #[.int .i64 0,.int .i64 0,.int .i64 0,.int .i64 0,.int .i64 0,.int .i64 0,.int .i64 0,.int .i64 0,.int .i64 0,.int .i64 0,.int .i64 0,.int .i64 0,.int .i64 0,.int .i64 0,.int .i64 0,.int .i64 0,.int .i64 0,.int .i64 0,.int .i64 0,.int .i64 0,.int .i64 0] 36)
   have c0:=V0.c0
   have z0:=V0.frozen 0
   have V1:=hide V0
   have Z1:=hide Z0
   have B1:=hide B0
   clear V0 Z0 B0
   go_enter Tryz.func89,Tryz.ntmps89
   go_wp2_with (first
    |(refine wpList_load_row rfl 36 (.tmp 3) rfl w.heap.size rfl 36 _ (0,0) _ V1.out Tryz.underlying36 rfl (info_G _ _) ?_)
    |(refine wpList_store_row rfl 36 (.tmp 6) (.tmp 48) rfl (w.heap.size+1) _ rfl rfl 36 _ Z1.out (info_G _ _) (by rw [rowG_size];rfl) (rowG_one _ _) ?_)
    |(refine bodyPost_ret (results_agg_tmp rfl _ _ (w.heap.size+1) 36 _ (0,0) _ rfl (setRow_heap _ _ _ _ _ _ Z1.out) Tryz.underlying36 rfl (info_G _ _)) rfl ⟨rfl,below_setRow B1.out (Nat.le_succ _) _⟩))
theorem write_at (i:Nat) (hi:i<20) (a b h m y x:Int) (f:Nat→Int) (ha:a=2∨a=3) (hh:halfOf (f i) a b=h) (hm:mk i=m) (hy:bits .and .i64 h m=y) (hx:bringsOf (i:Int) a=x) (w:World) (hM:HasMask w):
  Calls Tryz.prog 89 #[.agg (rowG (i:Int) f),.int .i64 a,.int .i64 b] w fun e w'=>e=.returned (.tuple #[.agg (rowG (i:Int) (upd f i y)),.int .i64 x])∧Below w.heap.size w w':=by
 have CH:=hide (half_any (f i) a b h hh)
 have CB:=hide (brings_any (i:Int) a x hx)
 clear hh hx
 have V0:=(hasG_new 36 w (i:Int) f).alloc (.cells #[.int .i64 0,.int .i64 0,.int .i64 0,.int .i64 0,.int .i64 0,.int .i64 0,.int .i64 0,.int .i64 0,.int .i64 0,.int .i64 0,.int .i64 0,.int .i64 0,.int .i64 0,.int .i64 0,.int .i64 0,.int .i64 0,.int .i64 0,.int .i64 0,.int .i64 0,.int .i64 0,.int .i64 0] 36)
 have Z0:=heap_alloc2_new w (.cells (rowG (i:Int) f) 36) (.cells #[.int .i64 0,.int .i64 0,.int .i64 0,.int .i64 0,.int .i64 0,.int .i64 0,.int .i64 0,.int .i64 0,.int .i64 0,.int .i64 0,.int .i64 0,.int .i64 0,.int .i64 0,.int .i64 0,.int .i64 0,.int .i64 0,.int .i64 0,.int .i64 0,.int .i64 0,.int .i64 0,.int .i64 0] 36)
 have B0:=((Below.refl _ w).alloc (Nat.le_refl _) (.cells (rowG (i:Int) f) 36)).alloc (by simp) (.cells #[.int .i64 0,.int .i64 0,.int .i64 0,.int .i64 0,.int .i64 0,.int .i64 0,.int .i64 0,.int .i64 0,.int .i64 0,.int .i64 0,.int .i64 0,.int .i64 0,.int .i64 0,.int .i64 0,.int .i64 0,.int .i64 0,.int .i64 0,.int .i64 0,.int .i64 0,.int .i64 0,.int .i64 0] 36)
 have M0:=hM.next B0
 have c0:=V0.c0
 rcases ha with rfl|rfl
 ·go_enter Tryz.func89,Tryz.ntmps89
  go_wp2_with fail
  obtain ⟨wr,hwr⟩:∃wr,wr=(w.alloc (.cells (rowG (i:Int) f) 36)).alloc (.cells #[.int .i64 0,.int .i64 0,.int .i64 0,.int .i64 0,.int .i64 0,.int .i64 0,.int .i64 0,.int .i64 0,.int .i64 0,.int .i64 0,.int .i64 0,.int .i64 0,.int .i64 0,.int .i64 0,.int .i64 0,.int .i64 0,.int .i64 0,.int .i64 0,.int .i64 0,.int .i64 0,.int .i64 0] 36):=⟨_,rfl⟩
  rw [←hwr] at V0 Z0 B0 M0 c0 ⊢
  clear hwr
  have k0:=kept_cell c0 V0.lt
  have ki:=kept_cell (V0.at i hi) V0.lt
  have km:=kept_cell (M0.at i hi) M0.pos
  rw [hm] at km
  have V:=hide V0
  have Z:=hide Z0
  have B:=hide B0
  clear V0 Z0 B0 M0 c0 hM
  haveI:=kept_some wr
  refine wp_region_kept_shut _ _ (show _=[_,_,_,_,_,_,_,_,_,_,_,_,_,_,_,_,_]++[_] from rfl) (by kernel_rfl) (by kernel_rfl) (by kernel_rfl) ?_
  repeat (go_big_quiet_step ((go_at_call 126;exact kept_call (CH.out _))))
  refine wpQuiet_nil ?_
  rintro _ ⟨wk,rfl⟩
  have VK:=V.out.next wk.below
  have ZK:=(wk.block (w.heap.size+1) (lt_of_block Z.out)).trans Z.out
  have BK:=bnext B.out wk.below
  have ci:=VK.at i hi
  have zi:=VK.frozen (1+i)
  have V1:=hide (VK.set i y)
  have Z1:=hide ((heap_setCell_other _ ⟨w.heap.size,1+i,none⟩ (w.heap.size+1) (.int .i64 y) (by simp)).trans ZK)
  have B1:=hide (BK.setCell (p:=⟨w.heap.size,1+i,none⟩) (Nat.le_refl _) (.int .i64 y))
  clear VK ZK BK V Z B k0 ki km CH
  go_wp2_with fail
  obtain ⟨wt,hwt⟩:∃wt,wt=wk.val.setCell ⟨w.heap.size,1+i,none⟩ (.int .i64 y):=⟨_,rfl⟩
  rw [←hwt] at V1 Z1 B1 ⊢
  clear hwt ci zi
  have k0:=kept_cell V1.out.c0 V1.out.lt
  haveI:=kept_some wt
  refine wp_region_kept_shut2 _ _ _ (show _=([_,_,_,_,_]++[_])++[_] from rfl) (by kernel_rfl) (by kernel_rfl) (by kernel_rfl) (by kernel_rfl) ?_
  repeat (first
   |(refine wpQuiet_row rfl 36 (.tmp 3) rfl w.heap.size rfl 36 _ (0,0) _ (fun w' ⟨x,hx⟩=>by rw [hx];exact (x.block _ V1.out.lt).trans V1.out) Tryz.underlying36 rfl (info_G _ _) ?_;simp only [Act.put,List.setIfInBounds_toArray,List.set_cons_succ,List.set_cons_zero])
   |go_big_quiet_step ((go_at_call 127;exact kept_same (CB.out _))))
  refine wpQuiet_nil ?_
  rintro _ ⟨wj,rfl⟩
  have Z2:=hide ((wj.block (w.heap.size+1) (lt_of_block Z1.out)).trans Z1.out)
  have B2:=hide (bnext B1.out wj.below)
  clear V1 Z1 B1 k0 CB
  go_wp2_with (first
   |(refine wpList_store_row rfl 36 (.tmp 6) (.tmp 43) rfl (w.heap.size+1) _ rfl rfl 36 _ Z2.out (info_G _ _) (by rw [rowG_size];rfl) (rowG_one _ _) ?_)
   |(refine bodyPost_ret (results_agg_tmp rfl _ _ (w.heap.size+1) 36 _ (0,0) _ rfl (setRow_heap _ _ _ _ _ _ Z2.out) Tryz.underlying36 rfl (info_G _ _)) rfl ⟨rfl,below_setRow B2.out (Nat.le_succ _) _⟩))
 ·go_enter Tryz.func89,Tryz.ntmps89
  go_wp2_with fail
  obtain ⟨wr,hwr⟩:∃wr,wr=(w.alloc (.cells (rowG (i:Int) f) 36)).alloc (.cells #[.int .i64 0,.int .i64 0,.int .i64 0,.int .i64 0,.int .i64 0,.int .i64 0,.int .i64 0,.int .i64 0,.int .i64 0,.int .i64 0,.int .i64 0,.int .i64 0,.int .i64 0,.int .i64 0,.int .i64 0,.int .i64 0,.int .i64 0,.int .i64 0,.int .i64 0,.int .i64 0,.int .i64 0] 36):=⟨_,rfl⟩
  rw [←hwr] at V0 Z0 B0 M0 c0 ⊢
  clear hwr
  have k0:=kept_cell c0 V0.lt
  have ki:=kept_cell (V0.at i hi) V0.lt
  have km:=kept_cell (M0.at i hi) M0.pos
  rw [hm] at km
  have V:=hide V0
  have Z:=hide Z0
  have B:=hide B0
  clear V0 Z0 B0 M0 c0 hM
  haveI:=kept_some wr
  refine wp_region_kept_shut _ _ (show _=[_,_,_,_,_,_,_,_,_,_,_,_,_,_,_,_,_]++[_] from rfl) (by kernel_rfl) (by kernel_rfl) (by kernel_rfl) ?_
  repeat (go_big_quiet_step ((go_at_call 126;exact kept_call (CH.out _))))
  refine wpQuiet_nil ?_
  rintro _ ⟨wk,rfl⟩
  have VK:=V.out.next wk.below
  have ZK:=(wk.block (w.heap.size+1) (lt_of_block Z.out)).trans Z.out
  have BK:=bnext B.out wk.below
  have ci:=VK.at i hi
  have zi:=VK.frozen (1+i)
  have V1:=hide (VK.set i y)
  have Z1:=hide ((heap_setCell_other _ ⟨w.heap.size,1+i,none⟩ (w.heap.size+1) (.int .i64 y) (by simp)).trans ZK)
  have B1:=hide (BK.setCell (p:=⟨w.heap.size,1+i,none⟩) (Nat.le_refl _) (.int .i64 y))
  clear VK ZK BK V Z B k0 ki km CH
  go_wp2_with fail
  obtain ⟨wt,hwt⟩:∃wt,wt=wk.val.setCell ⟨w.heap.size,1+i,none⟩ (.int .i64 y):=⟨_,rfl⟩
  rw [←hwt] at V1 Z1 B1 ⊢
  clear hwt ci zi
  have k0:=kept_cell V1.out.c0 V1.out.lt
  haveI:=kept_some wt
  refine wp_region_kept_shut2 _ _ _ (show _=([_,_,_,_,_]++[_])++[_] from rfl) (by kernel_rfl) (by kernel_rfl) (by kernel_rfl) (by kernel_rfl) ?_
  repeat (first
   |(refine wpQuiet_row rfl 36 (.tmp 3) rfl w.heap.size rfl 36 _ (0,0) _ (fun w' ⟨x,hx⟩=>by rw [hx];exact (x.block _ V1.out.lt).trans V1.out) Tryz.underlying36 rfl (info_G _ _) ?_;simp only [Act.put,List.setIfInBounds_toArray,List.set_cons_succ,List.set_cons_zero])
   |go_big_quiet_step ((go_at_call 127;exact kept_same (CB.out _))))
  refine wpQuiet_nil ?_
  rintro _ ⟨wj,rfl⟩
  have Z2:=hide ((wj.block (w.heap.size+1) (lt_of_block Z1.out)).trans Z1.out)
  have B2:=hide (bnext B1.out wj.below)
  clear V1 Z1 B1 k0 CB
  go_wp2_with (first
   |(refine wpList_store_row rfl 36 (.tmp 6) (.tmp 43) rfl (w.heap.size+1) _ rfl rfl 36 _ Z2.out (info_G _ _) (by rw [rowG_size];rfl) (rowG_one _ _) ?_)
   |(refine bodyPost_ret (results_agg_tmp rfl _ _ (w.heap.size+1) 36 _ (0,0) _ rfl (setRow_heap _ _ _ _ _ _ Z2.out) Tryz.underlying36 rfl (info_G _ _)) rfl ⟨rfl,below_setRow B2.out (Nat.le_succ _) _⟩))
end Go.Proofs.YtnllcknfmciebaaGreatDoor.R15
namespace Go.Proofs.YtnllcknfmciebaaGreatDoor.R15
set_option maxRecDepth 20000
open Go.RowKit
set_option linter.unusedVariables false
end Go.Proofs.YtnllcknfmciebaaGreatDoor.R15
namespace Go.Proofs.YtnllcknfmciebaaGreatDoor.R15
set_option maxRecDepth 20000
open Go.RowKit
set_option linter.unusedVariables false
theorem fresh_any (w:World):Calls Tryz.prog 66 #[] w fun e w'=>e=.returned (.agg (rowG 0 (fun _=>0)))∧Below w.heap.size w w':=by
 have Z0:=hide (show (w.alloc (.cells #[.int .i64 0,.int .i64 0,.int .i64 0,.int .i64 0,.int .i64 0,.int .i64 0,.int .i64 0,.int .i64 0,.int .i64 0,.int .i64 0,.int .i64 0,.int .i64 0,.int .i64 0,.int .i64 0,.int .i64 0,.int .i64 0,.int .i64 0,.int .i64 0,.int .i64 0,.int .i64 0,.int .i64 0] 36)).heap[w.heap.size]? = some (.cells #[.int .i64 0,.int .i64 0,.int .i64 0,.int .i64 0,.int .i64 0,.int .i64 0,.int .i64 0,.int .i64 0,.int .i64 0,.int .i64 0,.int .i64 0,.int .i64 0,.int .i64 0,.int .i64 0,.int .i64 0,.int .i64 0,.int .i64 0,.int .i64 0,.int .i64 0,.int .i64 0,.int .i64 0] 36 (0,0)) from heap_alloc_new _ _)
 rw [←zero_lit]
 go_enter Tryz.func66,Tryz.ntmps66
 go_wp2_with (first
  |(refine wpList_store_row rfl 36 (.tmp 0) (.tmp 1) rfl w.heap.size _ rfl rfl 36 _ Z0.out (by kernel_rfl) rfl (by kernel_rfl) ?_)
  |(refine bodyPost_ret (results_cell_row rfl _ _ w.heap.size 36 _ (0,0) _ rfl (setRow_heap _ _ _ _ _ _ Z0.out) Tryz.underlying36 rfl (by kernel_rfl)) rfl ⟨rfl,below_setRow ((Below.refl _ w).alloc (Nat.le_refl _) _) (Nat.le_refl _) _⟩))
end Go.Proofs.YtnllcknfmciebaaGreatDoor.R15
namespace Go.Proofs.YtnllcknfmciebaaGreatDoor.R15
set_option maxRecDepth 20000
open Go.RowKit
set_option linter.unusedVariables false
theorem named_calls {P:Program} {f:FuncId} {args:Array Value} {w:World} {Q:Ending→World→Prop} (h:∀u,u=w→Calls P f args u Q):Calls P f args w Q:=h w rfl
theorem named_code {P:Program} {c:Code} {Q:Exit→Act→World→Prop} {a:Act} {w:World} (h:∀u,u=w→Code.wp P c Q a u):Code.wp P c Q a w:=h w rfl
def pairOf (n k:Int):Nat:=(bitOf n k+2*bitOf n (k+1)).toNat
theorem pairOf_lt (n k:Int):pairOf n k<4:=by
 have h1:=bitOf_01 n k
 have h2:=bitOf_01 n (k+1)
 unfold pairOf
 omega
theorem pairOf_is (n k:Int):bitOf n k+2*bitOf n (k+1)=(pairOf n k:Int):=by
 have h1:=bitOf_01 n k
 have h2:=bitOf_01 n (k+1)
 unfold pairOf
 omega
theorem pair_any (n k:Int) (h0:0≤k) (h1:k<15) (p:Nat) (hp:pairOf n k=p) (w:World):Calls Tryz.prog 157 #[.int .i64 n,.int .i64 k] w fun e w'=>e=.returned (.int .i64 (p:Int))∧w'=w:=by
 have b1:=bitOf_01 n k
 have b2:=bitOf_01 n (k+1)
 have HP:=hide (show bitOf n k+2*bitOf n (k+1)=(p:Int) by rw [←hp];exact pairOf_is n k)
 clear hp
 go_enter Tryz.func157,Tryz.ntmps157
 go_wp2_with (first|(go_at_call 97;refine (bit_any _ _ _).mono ?_;rintro e w' ⟨rfl,hw⟩;subst w'))
 go_ret
 exact ⟨ret_int HP.out,rfl⟩
def farL:List Int:=[1,32,64,128]
def farOf (p:Nat):Int:=farL.getD p 0
theorem four_at (L:List Int) (hL:L.length=4) (p:Nat) (hp:p<4):((L.map (Value.int .i64)).toArray)[p]? = some (.int .i64 (L.getD p 0)):=by
 simp [List.getD,List.getElem?_eq_getElem (show p<L.length by omega)]
theorem far_any (s:Int) (f:Nat→Int) (p:Nat) (hp:pairOf (f 5) 11=p) (w:World):Calls Tryz.prog 131 #[.agg (rowG s f)] w fun e w'=>e=.returned (.int .i64 (farOf p))∧Below w.heap.size w w':=by
 have CP:=hide (pair_any (f 5) 11 (by decide) (by decide) p hp)
 have hp4:p<4:=by rw [←hp];exact pairOf_lt _ _
 clear hp
 have c5:((w.alloc (.cells (rowG s f) 36)).alloc (.cells #[.int .i64 1,.int .i64 32,.int .i64 64,.int .i64 128] 220)).cell? ⟨w.heap.size,6,none⟩=some (.int .i64 (f 5)):=((hasG_new 36 w s f).alloc _).at 5 (by decide)
 have Z:=hide (heap_alloc2_new w (.cells (rowG s f) 36) (.cells #[.int .i64 1,.int .i64 32,.int .i64 64,.int .i64 128] 220))
 have B:=hide (((Below.refl _ w).alloc (Nat.le_refl _) (.cells (rowG s f) 36)).alloc (by simp) (.cells #[.int .i64 1,.int .i64 32,.int .i64 64,.int .i64 128] 220))
 go_enter Tryz.func131,Tryz.ntmps131
 go_wp2_with fail
 refine (CP.out _).mono ?_
 rintro e w' ⟨rfl,hw⟩
 subst w'
 have hl:=four_at farL rfl p hp4
 have hz:=(cell_of_row _ (w.heap.size+1) p _ _ _ Z.out).trans hl
 clear hl c5
 generalize hx:farL.getD p 0=x at hz
 have HX:=hide (show farOf p=x from hx)
 clear hx
 go_wp2_with fail
 go_ret
 exact ⟨ret_int HX.out.symm,B.out⟩
end Go.Proofs.YtnllcknfmciebaaGreatDoor.R15
namespace Go.Proofs.YtnllcknfmciebaaGreatDoor.R15
set_option maxRecDepth 20000
open Go.RowKit
set_option linter.unusedVariables false
end Go.Proofs.YtnllcknfmciebaaGreatDoor.R15
namespace Go.Proofs.YtnllcknfmciebaaGreatDoor.R15
set_option maxRecDepth 20000
open Go.RowKit
set_option linter.unusedVariables false
theorem lit_is:(#[.int .i64 65535,.int .i64 65535,.int .i64 65535,.int .i64 0,.int .i64 0,.int .i64 8191,.int .i64 1023,.int .i64 1023,.int .i64 511,.int .i64 255,.int .i64 32543,.int .i64 32639,.int .i64 65311,.int .i64 511,.int .i64 255,.int .i64 31,.int .i64 65535,.int .i64 65535,.int .i64 65535,.int .i64 65535]:Array Value)=maskCells:=rfl
theorem lit_at (k:Nat) (hk:k<20):(#[.int .i64 65535,.int .i64 65535,.int .i64 65535,.int .i64 0,.int .i64 0,.int .i64 8191,.int .i64 1023,.int .i64 1023,.int .i64 511,.int .i64 255,.int .i64 32543,.int .i64 32639,.int .i64 65311,.int .i64 511,.int .i64 255,.int .i64 31,.int .i64 65535,.int .i64 65535,.int .i64 65535,.int .i64 65535]:Array Value)[k]? = some (.int .i64 (mk k)):=by
 rw [lit_is]
 have:=mask_cell ⟨k,hk⟩
 simp only at this
 simp [maskCells,this]
theorem rmask_any (k:Nat) (hk:k<20) (m:Int) (hm:mk k=m) (w:World):Calls Tryz.prog 142 #[.int .i64 (k:Int)] w fun e w'=>e=.returned (.int .i64 m)∧Below w.heap.size w w':=by
 have c:(w.alloc (.cells #[.int .i64 65535,.int .i64 65535,.int .i64 65535,.int .i64 0,.int .i64 0,.int .i64 8191,.int .i64 1023,.int .i64 1023,.int .i64 511,.int .i64 255,.int .i64 32543,.int .i64 32639,.int .i64 65311,.int .i64 511,.int .i64 255,.int .i64 31,.int .i64 65535,.int .i64 65535,.int .i64 65535,.int .i64 65535] 3)).cell? ⟨w.heap.size,k,none⟩=some (.int .i64 m):=by
  rw [←hm,←lit_at k hk]
  exact cell_of_row _ w.heap.size k _ _ _ (heap_alloc_new _ _)
 clear hm
 go_enter Tryz.func142,Tryz.ntmps142
 go_wp2_with fail
 go_ret
 exact ⟨rfl,(Below.refl _ w).alloc (Nat.le_refl _) _⟩
theorem ronly_any (n m x:Int) (hm:IsMask m) (hx:andW n m=x) (w:World):Calls Tryz.prog 141 #[.int .i64 n,.int .i64 m] w fun e w'=>e=.returned (.int .i64 x)∧w'=w:=by
 have HX:=hide ((only_16 n m hm).trans hx)
 clear hx hm
 go_enter Tryz.func141,Tryz.ntmps141
 go_wp2_with fail
 go_loop [5,6] (fun t i=>∃k:Nat,k≤16∧i=.int .i64 (k:Int)∧t=.int .i64 (onlyTo n m k)) (fun _ i=>16-(intOf i).toNat)
 case atStart=>exact ⟨0,Nat.zero_le _,rfl,rfl⟩
 case round=>
  obtain ⟨k,hk,rfl,rfl⟩:=hrel
  by_cases h:k<16
  ·have ho:=only_le n m k hk
   have hp:=pow_16 (k:Int) (by omega) (by omega)
   have h16:(2:Int) ^ k≤32768:=by simpa using hp.2
   have h1:(1:Int)≤2 ^ k:=by simpa using hp.1
   have HS:=hide (show onlyTo n m (k+1)=onlyTo n m k+bitOf n k*bitOf m k*2 ^ k from rfl)
   have C1:=hide (rbit_any n (k:Int))
   have C2:=hide (rbit_any m (k:Int))
   have CP:=hide (fun w=>power_any (k:Int) w (by omega) (by omega))
   simp only [Int.toNat_natCast] at CP
   have b1:=bitOf_01 n k
   have b2:=bitOf_01 m k
   have e1:bitOf n k=0∨bitOf n k=1:=by omega
   have e2:bitOf m k=0∨bitOf m k=1:=by omega
   clear b1 b2 hp
   generalize onlyTo n m k=o at *
   generalize (2:Int) ^ k=p at *
   rcases e1 with e1|e1<;>rcases e2 with e2|e2
   all_goals
    rw [e1] at C1 HS
    rw [e2] at C2 HS
    clear e1 e2
    go_wp2_with fail
    refine (C1.out _).mono ?_
    rintro e w' ⟨rfl,hw⟩
    subst w'
    go_wp2_with fail
    refine (C2.out _).mono ?_
    rintro e w' ⟨rfl,hw⟩
    subst w'
    go_wp2_with fail
    refine (CP.out _).mono ?_
    rintro e w' ⟨rfl,hw⟩
    subst w'
    go_wp2_with fail
    go_round
    case rel=>exact ⟨k+1,by omega,by go_num,by rw [HS.out];congr 1;omega⟩
    case measure=>simp [intOf];omega
  ·obtain rfl:k=16:=by omega
   go_wp2_with fail
   go_ret
   exact ⟨ret_int HX.out,rfl⟩
end Go.Proofs.YtnllcknfmciebaaGreatDoor.R15
namespace Go.Proofs.YtnllcknfmciebaaGreatDoor.R15
set_option maxRecDepth 20000
open Go.RowKit
set_option linter.unusedVariables false
theorem rfar_any (s:Int) (f:Nat→Int) (p:Nat) (hp:pairOf (f 5) 11=p) (w:World):Calls Tryz.prog 103 #[.agg (rowG s f)] w fun e w'=>e=.returned (.int .i64 (farOf p))∧Below w.heap.size w w':=by
 have hp4:p<4:=by rw [←hp];exact pairOf_lt _ _
 have hs:bitOf (f 5) 11+2*bitOf (f 5) 12=(p:Int):=by rw [←hp];exact pairOf_is (f 5) 11
 have b1:=bitOf_01 (f 5) 11
 have b2:=bitOf_01 (f 5) 12
 have V:=hide (hasG_new 69 w s f)
 have B:=hide ((Below.refl _ w).alloc (Nat.le_refl _) (.cells (rowG s f) 69))
 have HR:=hide (fun k=>rbit_any (f 5) k)
 clear hp
 go_enter Tryz.func103,Tryz.ntmps103
 go_wp2_with fail
 refine named_code fun wr hwr=>?_
 rw [←hwr] at V B
 clear hwr
 refine wp_region_made _ _ _ _ (show _=_::[_,_,_,_,_,_,_,_,_,_]++[_,_,_] from rfl) rfl 16 3 (fun g=>.slice (some ⟨g,0,none⟩) 4 4) (farL.map (Value.int .i64)).toArray 3 (by kernel_rfl) (by kernel_rfl) (by kernel_rfl) (by kernel_rfl) (by kernel_rfl) rfl rfl rfl rfl (by decide) ?_ ?_
 ·intro a w
  kernel_rfl
 apply Exists.intro
 refine ⟨fun W hW=>?_,?_⟩
 ·have VW:=V.out.next hW
  have k5:∀x:Kept W,x.val.cell? ⟨w.heap.size,6,none⟩=some (.int .i64 (f 5)):=kept_cell (VW.at 5 (by decide)) VW.lt
  clear VW
  haveI:=kept_some W
  repeat (go_big_quiet_step ((go_at_call 106;exact kept_same (HR.out _ _))))
  refine wpQuiet_nil ?_
  rfl
 intro g wx bx hg lg
 have hz:=(cell_of_row wx g p _ _ _ hg).trans (four_at farL rfl p hp4)
 clear hg
 replace B:=hide (bnext B.out bx)
 generalize hx:farL.getD p 0=x at hz
 have HX:=hide (show farOf p=x from hx)
 clear hx bx V b1 b2 hs
 simp only [Act.put,List.setIfInBounds_toArray,List.set_cons_succ,List.set_cons_zero]
 go_wp2_with fail
 go_ret
 exact ⟨ret_int HX.out.symm,B.out⟩
theorem effect_any (s a x:Int) (ha:a=2∨a=3) (hx:bringsOf s a=x) (w:World):Calls Tryz.prog 143 #[.int .i64 s,.int .i64 a] w fun e w'=>e=.returned (.int .i64 x)∧w'=w:=by
 unfold bringsOf at hx
 have HX:=hide hx
 clear hx
 by_cases h0:s=0
 ·rw [if_pos h0] at HX
  subst h0
  go_enter Tryz.func143,Tryz.ntmps143
  go_wp2
  go_ret
  exact ⟨ret_int HX.out,rfl⟩
 ·rw [if_neg h0] at HX
  rcases ha with rfl|rfl
  ·rw [if_pos rfl] at HX
   by_cases h2:s=2
   ·rw [if_pos h2] at HX
    subst h2
    go_enter Tryz.func143,Tryz.ntmps143
    go_wp2
    go_ret
    exact ⟨ret_int HX.out,rfl⟩
   ·rw [if_neg h2] at HX
    go_enter Tryz.func143,Tryz.ntmps143
    go_wp2
    go_ret
    exact ⟨ret_int HX.out,rfl⟩
  ·rw [if_neg (by decide)] at HX
   by_cases h1:s=1
   ·subst h1
    go_enter Tryz.func143,Tryz.ntmps143
    go_wp2
    go_ret
    exact ⟨ret_int HX.out,rfl⟩
   ·by_cases h2:s=2
    ·subst h2
     go_enter Tryz.func143,Tryz.ntmps143
     go_wp2
     go_ret
     exact ⟨ret_int HX.out,rfl⟩
    ·by_cases h5:s=5
     ·subst h5
      go_enter Tryz.func143,Tryz.ntmps143
      go_wp2
      go_ret
      exact ⟨ret_int HX.out,rfl⟩
     ·by_cases h8:s=18
      ·subst h8
       go_enter Tryz.func143,Tryz.ntmps143
       go_wp2
       go_ret
       exact ⟨ret_int HX.out,rfl⟩
      ·by_cases h9:s=19
       ·subst h9
        go_enter Tryz.func143,Tryz.ntmps143
        go_wp2
        go_ret
        exact ⟨ret_int HX.out,rfl⟩
       ·rw [if_neg h1,if_neg h2,if_neg h5,if_neg h8,if_neg h9] at HX
        go_enter Tryz.func143,Tryz.ntmps143
        go_wp2
        go_ret
        exact ⟨ret_int HX.out,rfl⟩
end Go.Proofs.YtnllcknfmciebaaGreatDoor.R15
namespace Go.Proofs.YtnllcknfmciebaaGreatDoor.R15
set_option maxRecDepth 20000
open Go.RowKit
set_option linter.unusedVariables false
theorem info_R (s:Int) (f:Nat→Int):(Tryz.prog.info? 69).map (·.size)=some (rowG s f).size:=by
 rw [rowG_size]
 kernel_rfl
theorem rwrite_sel (s b x:Int) (f:Nat→Int) (hx:b%32=x) (w:World):Calls Tryz.prog 100 #[.agg (rowG s f),.int .i64 0,.int .i64 b] w fun e w'=>e=.returned (.tuple #[.agg (rowG x f),.int .i64 0])∧Below w.heap.size w w':=by
 have h0:0≤b%256:=by omega
 have h1:b%256<256:=by omega
 have et:b%256%32=x:=by omega
 clear hx
 have V:=hide ((hasG_new 69 w s f).alloc (.cells #[.int .i64 0,.int .i64 0,.int .i64 0,.int .i64 0,.int .i64 0,.int .i64 0,.int .i64 0,.int .i64 0,.int .i64 0,.int .i64 0,.int .i64 0,.int .i64 0,.int .i64 0,.int .i64 0,.int .i64 0,.int .i64 0,.int .i64 0,.int .i64 0,.int .i64 0,.int .i64 0,.int .i64 0] 69))
 have Z:=hide (heap_alloc2_new w (.cells (rowG s f) 69) (.cells #[.int .i64 0,.int .i64 0,.int .i64 0,.int .i64 0,.int .i64 0,.int .i64 0,.int .i64 0,.int .i64 0,.int .i64 0,.int .i64 0,.int .i64 0,.int .i64 0,.int .i64 0,.int .i64 0,.int .i64 0,.int .i64 0,.int .i64 0,.int .i64 0,.int .i64 0,.int .i64 0,.int .i64 0] 69))
 have B:=hide (((Below.refl _ w).alloc (Nat.le_refl _) (.cells (rowG s f) 69)).alloc (by simp) (.cells #[.int .i64 0,.int .i64 0,.int .i64 0,.int .i64 0,.int .i64 0,.int .i64 0,.int .i64 0,.int .i64 0,.int .i64 0,.int .i64 0,.int .i64 0,.int .i64 0,.int .i64 0,.int .i64 0,.int .i64 0,.int .i64 0,.int .i64 0,.int .i64 0,.int .i64 0,.int .i64 0,.int .i64 0] 69))
 go_enter Tryz.func100,Tryz.ntmps100
 go_wp2_with fail
 refine named_calls fun wr hwr=>?_
 rw [←hwr] at V Z B
 clear hwr
 have c0:=V.out.c0
 have z0:=V.out.frozen 0
 refine (rbyte_any _ _).mono ?_
 rintro e w' ⟨rfl,hw⟩
 subst w'
 generalize b%256=c at *
 replace V:=hide (V.out.set0 x)
 replace Z:=hide ((heap_setCell_other wr ⟨w.heap.size,0,none⟩ (w.heap.size+1) (.int .i64 x) (by simp)).trans Z.out)
 replace B:=hide (B.out.setCell (p:=⟨w.heap.size,0,none⟩) (Nat.le_refl _) (.int .i64 x))
 go_wp2_with (first
  |(refine wpList_load_row rfl 69 (.tmp 3) rfl w.heap.size rfl 69 _ (0,0) _ V.out Tryz.underlying69 rfl (info_R _ _) ?_)
  |(refine wpList_store_row rfl 69 (.tmp 6) (.tmp 32) rfl (w.heap.size+1) _ rfl rfl 69 _ Z.out (info_R _ _) (by rw [rowG_size];rfl) (rowG_one _ _) ?_)
  |(refine bodyPost_ret (results_agg_tmp rfl _ _ (w.heap.size+1) 69 _ (0,0) _ rfl (setRow_heap _ _ _ _ _ _ Z.out) Tryz.underlying69 rfl (info_R _ _)) rfl ⟨rfl,below_setRow B.out (Nat.le_succ _) _⟩))
theorem rwrite_no (a s b:Int) (f:Nat→Int) (h:a≠0∧(a=2∨a=3→s<0∨20≤s)) (w:World):Calls Tryz.prog 100 #[.agg (rowG s f),.int .i64 a,.int .i64 b] w fun e w'=>e=.returned (.tuple #[.agg (rowG s f),.int .i64 0])∧Below w.heap.size w w':=by
 obtain ⟨h0,hs⟩:=h
 by_cases h2:a=2
 ·subst h2
  rcases hs (.inl rfl) with k|k
  ·clear hs
   have V:=hide ((hasG_new 69 w s f).alloc (.cells #[.int .i64 0,.int .i64 0,.int .i64 0,.int .i64 0,.int .i64 0,.int .i64 0,.int .i64 0,.int .i64 0,.int .i64 0,.int .i64 0,.int .i64 0,.int .i64 0,.int .i64 0,.int .i64 0,.int .i64 0,.int .i64 0,.int .i64 0,.int .i64 0,.int .i64 0,.int .i64 0,.int .i64 0] 69))
   have Z:=hide (heap_alloc2_new w (.cells (rowG s f) 69) (.cells #[.int .i64 0,.int .i64 0,.int .i64 0,.int .i64 0,.int .i64 0,.int .i64 0,.int .i64 0,.int .i64 0,.int .i64 0,.int .i64 0,.int .i64 0,.int .i64 0,.int .i64 0,.int .i64 0,.int .i64 0,.int .i64 0,.int .i64 0,.int .i64 0,.int .i64 0,.int .i64 0,.int .i64 0] 69))
   have B:=hide (((Below.refl _ w).alloc (Nat.le_refl _) (.cells (rowG s f) 69)).alloc (by simp) (.cells #[.int .i64 0,.int .i64 0,.int .i64 0,.int .i64 0,.int .i64 0,.int .i64 0,.int .i64 0,.int .i64 0,.int .i64 0,.int .i64 0,.int .i64 0,.int .i64 0,.int .i64 0,.int .i64 0,.int .i64 0,.int .i64 0,.int .i64 0,.int .i64 0,.int .i64 0,.int .i64 0,.int .i64 0] 69))
   go_enter Tryz.func100,Tryz.ntmps100
   go_wp2_with fail
   refine named_calls fun wr hwr=>?_
   rw [←hwr] at V Z B
   clear hwr
   have c0:=V.out.c0
   have z0:=V.out.frozen 0
   refine (rbyte_any _ _).mono ?_
   rintro e w' ⟨rfl,hw⟩
   subst w'
   go_wp2_with (first
    |(refine wpList_load_row rfl 69 (.tmp 3) rfl w.heap.size rfl 69 _ (0,0) _ V.out Tryz.underlying69 rfl (info_R _ _) ?_)
    |(refine wpList_store_row rfl 69 (.tmp 6) (.tmp 32) rfl (w.heap.size+1) _ rfl rfl 69 _ Z.out (info_R _ _) (by rw [rowG_size];rfl) (rowG_one _ _) ?_)
    |(refine bodyPost_ret (results_agg_tmp rfl _ _ (w.heap.size+1) 69 _ (0,0) _ rfl (setRow_heap _ _ _ _ _ _ Z.out) Tryz.underlying69 rfl (info_R _ _)) rfl ⟨rfl,below_setRow B.out (Nat.le_succ _) _⟩))
  ·clear hs
   have V:=hide ((hasG_new 69 w s f).alloc (.cells #[.int .i64 0,.int .i64 0,.int .i64 0,.int .i64 0,.int .i64 0,.int .i64 0,.int .i64 0,.int .i64 0,.int .i64 0,.int .i64 0,.int .i64 0,.int .i64 0,.int .i64 0,.int .i64 0,.int .i64 0,.int .i64 0,.int .i64 0,.int .i64 0,.int .i64 0,.int .i64 0,.int .i64 0] 69))
   have Z:=hide (heap_alloc2_new w (.cells (rowG s f) 69) (.cells #[.int .i64 0,.int .i64 0,.int .i64 0,.int .i64 0,.int .i64 0,.int .i64 0,.int .i64 0,.int .i64 0,.int .i64 0,.int .i64 0,.int .i64 0,.int .i64 0,.int .i64 0,.int .i64 0,.int .i64 0,.int .i64 0,.int .i64 0,.int .i64 0,.int .i64 0,.int .i64 0,.int .i64 0] 69))
   have B:=hide (((Below.refl _ w).alloc (Nat.le_refl _) (.cells (rowG s f) 69)).alloc (by simp) (.cells #[.int .i64 0,.int .i64 0,.int .i64 0,.int .i64 0,.int .i64 0,.int .i64 0,.int .i64 0,.int .i64 0,.int .i64 0,.int .i64 0,.int .i64 0,.int .i64 0,.int .i64 0,.int .i64 0,.int .i64 0,.int .i64 0,.int .i64 0,.int .i64 0,.int .i64 0,.int .i64 0,.int .i64 0] 69))
   go_enter Tryz.func100,Tryz.ntmps100
   go_wp2_with fail
   refine named_calls fun wr hwr=>?_
   rw [←hwr] at V Z B
   clear hwr
   have c0:=V.out.c0
   have z0:=V.out.frozen 0
   refine (rbyte_any _ _).mono ?_
   rintro e w' ⟨rfl,hw⟩
   subst w'
   go_wp2_with (first
    |(refine wpList_load_row rfl 69 (.tmp 3) rfl w.heap.size rfl 69 _ (0,0) _ V.out Tryz.underlying69 rfl (info_R _ _) ?_)
    |(refine wpList_store_row rfl 69 (.tmp 6) (.tmp 32) rfl (w.heap.size+1) _ rfl rfl 69 _ Z.out (info_R _ _) (by rw [rowG_size];rfl) (rowG_one _ _) ?_)
    |(refine bodyPost_ret (results_agg_tmp rfl _ _ (w.heap.size+1) 69 _ (0,0) _ rfl (setRow_heap _ _ _ _ _ _ Z.out) Tryz.underlying69 rfl (info_R _ _)) rfl ⟨rfl,below_setRow B.out (Nat.le_succ _) _⟩))
 ·by_cases h3:a=3
  ·subst h3
   rcases hs (.inr rfl) with k|k
   ·clear hs
    have V:=hide ((hasG_new 69 w s f).alloc (.cells #[.int .i64 0,.int .i64 0,.int .i64 0,.int .i64 0,.int .i64 0,.int .i64 0,.int .i64 0,.int .i64 0,.int .i64 0,.int .i64 0,.int .i64 0,.int .i64 0,.int .i64 0,.int .i64 0,.int .i64 0,.int .i64 0,.int .i64 0,.int .i64 0,.int .i64 0,.int .i64 0,.int .i64 0] 69))
    have Z:=hide (heap_alloc2_new w (.cells (rowG s f) 69) (.cells #[.int .i64 0,.int .i64 0,.int .i64 0,.int .i64 0,.int .i64 0,.int .i64 0,.int .i64 0,.int .i64 0,.int .i64 0,.int .i64 0,.int .i64 0,.int .i64 0,.int .i64 0,.int .i64 0,.int .i64 0,.int .i64 0,.int .i64 0,.int .i64 0,.int .i64 0,.int .i64 0,.int .i64 0] 69))
    have B:=hide (((Below.refl _ w).alloc (Nat.le_refl _) (.cells (rowG s f) 69)).alloc (by simp) (.cells #[.int .i64 0,.int .i64 0,.int .i64 0,.int .i64 0,.int .i64 0,.int .i64 0,.int .i64 0,.int .i64 0,.int .i64 0,.int .i64 0,.int .i64 0,.int .i64 0,.int .i64 0,.int .i64 0,.int .i64 0,.int .i64 0,.int .i64 0,.int .i64 0,.int .i64 0,.int .i64 0,.int .i64 0] 69))
    go_enter Tryz.func100,Tryz.ntmps100
    go_wp2_with fail
    refine named_calls fun wr hwr=>?_
    rw [←hwr] at V Z B
    clear hwr
    have c0:=V.out.c0
    have z0:=V.out.frozen 0
    refine (rbyte_any _ _).mono ?_
    rintro e w' ⟨rfl,hw⟩
    subst w'
    go_wp2_with (first
     |(refine wpList_load_row rfl 69 (.tmp 3) rfl w.heap.size rfl 69 _ (0,0) _ V.out Tryz.underlying69 rfl (info_R _ _) ?_)
     |(refine wpList_store_row rfl 69 (.tmp 6) (.tmp 32) rfl (w.heap.size+1) _ rfl rfl 69 _ Z.out (info_R _ _) (by rw [rowG_size];rfl) (rowG_one _ _) ?_)
     |(refine bodyPost_ret (results_agg_tmp rfl _ _ (w.heap.size+1) 69 _ (0,0) _ rfl (setRow_heap _ _ _ _ _ _ Z.out) Tryz.underlying69 rfl (info_R _ _)) rfl ⟨rfl,below_setRow B.out (Nat.le_succ _) _⟩))
   ·clear hs
    have V:=hide ((hasG_new 69 w s f).alloc (.cells #[.int .i64 0,.int .i64 0,.int .i64 0,.int .i64 0,.int .i64 0,.int .i64 0,.int .i64 0,.int .i64 0,.int .i64 0,.int .i64 0,.int .i64 0,.int .i64 0,.int .i64 0,.int .i64 0,.int .i64 0,.int .i64 0,.int .i64 0,.int .i64 0,.int .i64 0,.int .i64 0,.int .i64 0] 69))
    have Z:=hide (heap_alloc2_new w (.cells (rowG s f) 69) (.cells #[.int .i64 0,.int .i64 0,.int .i64 0,.int .i64 0,.int .i64 0,.int .i64 0,.int .i64 0,.int .i64 0,.int .i64 0,.int .i64 0,.int .i64 0,.int .i64 0,.int .i64 0,.int .i64 0,.int .i64 0,.int .i64 0,.int .i64 0,.int .i64 0,.int .i64 0,.int .i64 0,.int .i64 0] 69))
    have B:=hide (((Below.refl _ w).alloc (Nat.le_refl _) (.cells (rowG s f) 69)).alloc (by simp) (.cells #[.int .i64 0,.int .i64 0,.int .i64 0,.int .i64 0,.int .i64 0,.int .i64 0,.int .i64 0,.int .i64 0,.int .i64 0,.int .i64 0,.int .i64 0,.int .i64 0,.int .i64 0,.int .i64 0,.int .i64 0,.int .i64 0,.int .i64 0,.int .i64 0,.int .i64 0,.int .i64 0,.int .i64 0] 69))
    go_enter Tryz.func100,Tryz.ntmps100
    go_wp2_with fail
    refine named_calls fun wr hwr=>?_
    rw [←hwr] at V Z B
    clear hwr
    have c0:=V.out.c0
    have z0:=V.out.frozen 0
    refine (rbyte_any _ _).mono ?_
    rintro e w' ⟨rfl,hw⟩
    subst w'
    go_wp2_with (first
     |(refine wpList_load_row rfl 69 (.tmp 3) rfl w.heap.size rfl 69 _ (0,0) _ V.out Tryz.underlying69 rfl (info_R _ _) ?_)
     |(refine wpList_store_row rfl 69 (.tmp 6) (.tmp 32) rfl (w.heap.size+1) _ rfl rfl 69 _ Z.out (info_R _ _) (by rw [rowG_size];rfl) (rowG_one _ _) ?_)
     |(refine bodyPost_ret (results_agg_tmp rfl _ _ (w.heap.size+1) 69 _ (0,0) _ rfl (setRow_heap _ _ _ _ _ _ Z.out) Tryz.underlying69 rfl (info_R _ _)) rfl ⟨rfl,below_setRow B.out (Nat.le_succ _) _⟩))
  ·clear hs
   have d2:(a != 2)=true:=by simpa using h2
   have d3:(a != 3)=true:=by simpa using h3
   have V:=hide ((hasG_new 69 w s f).alloc (.cells #[.int .i64 0,.int .i64 0,.int .i64 0,.int .i64 0,.int .i64 0,.int .i64 0,.int .i64 0,.int .i64 0,.int .i64 0,.int .i64 0,.int .i64 0,.int .i64 0,.int .i64 0,.int .i64 0,.int .i64 0,.int .i64 0,.int .i64 0,.int .i64 0,.int .i64 0,.int .i64 0,.int .i64 0] 69))
   have Z:=hide (heap_alloc2_new w (.cells (rowG s f) 69) (.cells #[.int .i64 0,.int .i64 0,.int .i64 0,.int .i64 0,.int .i64 0,.int .i64 0,.int .i64 0,.int .i64 0,.int .i64 0,.int .i64 0,.int .i64 0,.int .i64 0,.int .i64 0,.int .i64 0,.int .i64 0,.int .i64 0,.int .i64 0,.int .i64 0,.int .i64 0,.int .i64 0,.int .i64 0] 69))
   have B:=hide (((Below.refl _ w).alloc (Nat.le_refl _) (.cells (rowG s f) 69)).alloc (by simp) (.cells #[.int .i64 0,.int .i64 0,.int .i64 0,.int .i64 0,.int .i64 0,.int .i64 0,.int .i64 0,.int .i64 0,.int .i64 0,.int .i64 0,.int .i64 0,.int .i64 0,.int .i64 0,.int .i64 0,.int .i64 0,.int .i64 0,.int .i64 0,.int .i64 0,.int .i64 0,.int .i64 0,.int .i64 0] 69))
   go_enter Tryz.func100,Tryz.ntmps100
   go_wp2_with fail
   refine named_calls fun wr hwr=>?_
   rw [←hwr] at V Z B
   clear hwr
   have c0:=V.out.c0
   have z0:=V.out.frozen 0
   refine (rbyte_any _ _).mono ?_
   rintro e w' ⟨rfl,hw⟩
   subst w'
   go_wp2_with (first
    |(refine wpList_load_row rfl 69 (.tmp 3) rfl w.heap.size rfl 69 _ (0,0) _ V.out Tryz.underlying69 rfl (info_R _ _) ?_)
    |(refine wpList_store_row rfl 69 (.tmp 6) (.tmp 32) rfl (w.heap.size+1) _ rfl rfl 69 _ Z.out (info_R _ _) (by rw [rowG_size];rfl) (rowG_one _ _) ?_)
    |(refine bodyPost_ret (results_agg_tmp rfl _ _ (w.heap.size+1) 69 _ (0,0) _ rfl (setRow_heap _ _ _ _ _ _ Z.out) Tryz.underlying69 rfl (info_R _ _)) rfl ⟨rfl,below_setRow B.out (Nat.le_succ _) _⟩))
theorem rwrite_at (i:Nat) (hi:i<20) (a b h m y x:Int) (f:Nat→Int) (ha:a=2∨a=3) (hh:halfOf (f i) a b=h) (hm:mk i=m) (hy:bits .and .i64 h m=y) (hx:bringsOf (i:Int) a=x) (w:World):
  Calls Tryz.prog 100 #[.agg (rowG (i:Int) f),.int .i64 a,.int .i64 b] w fun e w'=>e=.returned (.tuple #[.agg (rowG (i:Int) (upd f i y)),.int .i64 x])∧Below w.heap.size w w':=by
 have CE:=hide (effect_any (i:Int) a x ha hx)
 have CM:=hide (rmask_any i hi m hm)
 have MM:IsMask m:=by rw [←hm];exact mk_mask i
 have CO:=hide (ronly_any h m y MM (by rw [←hy,and_word h m MM]))
 have CW:=hide (rword_any (f i))
 have v0:0≤f i%65536:=by omega
 have v1:f i%65536<65536:=by omega
 have c00:0≤b%256:=by omega
 have c01:b%256<256:=by omega
 rcases ha with rfl|rfl
 ·have hc:f i%65536/256*256+b%256=h:=by
   rw [←hh]
   unfold halfOf lowOf
   rw [if_pos rfl]
   omega
  clear hh hy hx hm
  have V:=hide ((hasG_new 69 w (i:Int) f).alloc (.cells #[.int .i64 0,.int .i64 0,.int .i64 0,.int .i64 0,.int .i64 0,.int .i64 0,.int .i64 0,.int .i64 0,.int .i64 0,.int .i64 0,.int .i64 0,.int .i64 0,.int .i64 0,.int .i64 0,.int .i64 0,.int .i64 0,.int .i64 0,.int .i64 0,.int .i64 0,.int .i64 0,.int .i64 0] 69))
  have Z:=hide (heap_alloc2_new w (.cells (rowG (i:Int) f) 69) (.cells #[.int .i64 0,.int .i64 0,.int .i64 0,.int .i64 0,.int .i64 0,.int .i64 0,.int .i64 0,.int .i64 0,.int .i64 0,.int .i64 0,.int .i64 0,.int .i64 0,.int .i64 0,.int .i64 0,.int .i64 0,.int .i64 0,.int .i64 0,.int .i64 0,.int .i64 0,.int .i64 0,.int .i64 0] 69))
  have B:=hide (((Below.refl _ w).alloc (Nat.le_refl _) (.cells (rowG (i:Int) f) 69)).alloc (by simp) (.cells #[.int .i64 0,.int .i64 0,.int .i64 0,.int .i64 0,.int .i64 0,.int .i64 0,.int .i64 0,.int .i64 0,.int .i64 0,.int .i64 0,.int .i64 0,.int .i64 0,.int .i64 0,.int .i64 0,.int .i64 0,.int .i64 0,.int .i64 0,.int .i64 0,.int .i64 0,.int .i64 0,.int .i64 0] 69))
  go_enter Tryz.func100,Tryz.ntmps100
  go_wp2_with fail
  refine named_calls fun wr hwr=>?_
  rw [←hwr] at V Z B
  clear hwr
  have c0:=V.out.c0
  have z0:=V.out.frozen 0
  refine (rbyte_any _ _).mono ?_
  rintro e w' ⟨rfl,hw⟩
  subst w'
  generalize f i%65536=v at *
  generalize b%256=c at *
  have ci:=V.out.at i hi
  go_wp2_with (first|(go_at_call 62;refine (CW.out _).mono ?_;rintro e w' ⟨rfl,hw⟩;subst w'))
  have k0:=kept_cell c0 V.out.lt
  haveI:=kept_some wr
  refine wp_region_kept_shut _ _ (show _=[_,_,_,_,_,_,_,_,_]++[_] from rfl) (by kernel_rfl) (by kernel_rfl) (by kernel_rfl) ?_
  repeat (go_big_quiet_step ((first|(go_at_call 142;exact kept_call (CM.out _))|(go_at_call 141;exact kept_same (CO.out _)))))
  refine wpQuiet_nil ?_
  rintro _ ⟨wk,rfl⟩
  have VK:=V.out.next wk.below
  have ZK:=(wk.block (w.heap.size+1) (lt_of_block Z.out)).trans Z.out
  have BK:=bnext B.out wk.below
  clear ci
  have ci:=VK.at i hi
  have zi:=VK.frozen (1+i)
  have V1:=hide (VK.set i y)
  have Z1:=hide ((heap_setCell_other _ ⟨w.heap.size,1+i,none⟩ (w.heap.size+1) (.int .i64 y) (by simp)).trans ZK)
  have B1:=hide (BK.setCell (p:=⟨w.heap.size,1+i,none⟩) (Nat.le_refl _) (.int .i64 y))
  clear VK ZK BK V Z B k0 CM CO CW c0 z0
  go_wp2_with fail
  obtain ⟨wt,hwt⟩:∃wt,wt=wk.val.setCell ⟨w.heap.size,1+i,none⟩ (.int .i64 y):=⟨_,rfl⟩
  rw [←hwt] at V1 Z1 B1 ⊢
  clear hwt ci zi
  have k0:=kept_cell V1.out.c0 V1.out.lt
  haveI:=kept_some wt
  refine wp_region_kept_shut2 _ _ _ (show _=([_,_,_,_,_]++[_])++[_] from rfl) (by kernel_rfl) (by kernel_rfl) (by kernel_rfl) (by kernel_rfl) ?_
  repeat (first
   |(refine wpQuiet_row rfl 69 (.tmp 3) rfl w.heap.size rfl 69 _ (0,0) _ (fun w' ⟨x,hx⟩=>by rw [hx];exact (x.block _ V1.out.lt).trans V1.out) Tryz.underlying69 rfl (info_R _ _) ?_;simp only [Act.put,List.setIfInBounds_toArray,List.set_cons_succ,List.set_cons_zero])
   |go_big_quiet_step ((go_at_call 143;exact kept_same (CE.out _))))
  refine wpQuiet_nil ?_
  rintro _ ⟨wj,rfl⟩
  have Z2:=hide ((wj.block (w.heap.size+1) (lt_of_block Z1.out)).trans Z1.out)
  have B2:=hide (bnext B1.out wj.below)
  clear V1 Z1 B1 k0 CE
  go_wp2_with (first
   |(refine wpList_store_row rfl 69 (.tmp 6) (.tmp 60) rfl (w.heap.size+1) _ rfl rfl 69 _ Z2.out (info_R _ _) (by rw [rowG_size];rfl) (rowG_one _ _) ?_)
   |(refine bodyPost_ret (results_agg_tmp rfl _ _ (w.heap.size+1) 69 _ (0,0) _ rfl (setRow_heap _ _ _ _ _ _ Z2.out) Tryz.underlying69 rfl (info_R _ _)) rfl ⟨rfl,below_setRow B2.out (Nat.le_succ _) _⟩))
 ·have hc:f i%65536%256+256*(b%256)=h:=by
   rw [←hh]
   unfold halfOf highOf
   rw [if_neg (by decide)]
   omega
  clear hh hy hx hm
  have V:=hide ((hasG_new 69 w (i:Int) f).alloc (.cells #[.int .i64 0,.int .i64 0,.int .i64 0,.int .i64 0,.int .i64 0,.int .i64 0,.int .i64 0,.int .i64 0,.int .i64 0,.int .i64 0,.int .i64 0,.int .i64 0,.int .i64 0,.int .i64 0,.int .i64 0,.int .i64 0,.int .i64 0,.int .i64 0,.int .i64 0,.int .i64 0,.int .i64 0] 69))
  have Z:=hide (heap_alloc2_new w (.cells (rowG (i:Int) f) 69) (.cells #[.int .i64 0,.int .i64 0,.int .i64 0,.int .i64 0,.int .i64 0,.int .i64 0,.int .i64 0,.int .i64 0,.int .i64 0,.int .i64 0,.int .i64 0,.int .i64 0,.int .i64 0,.int .i64 0,.int .i64 0,.int .i64 0,.int .i64 0,.int .i64 0,.int .i64 0,.int .i64 0,.int .i64 0] 69))
  have B:=hide (((Below.refl _ w).alloc (Nat.le_refl _) (.cells (rowG (i:Int) f) 69)).alloc (by simp) (.cells #[.int .i64 0,.int .i64 0,.int .i64 0,.int .i64 0,.int .i64 0,.int .i64 0,.int .i64 0,.int .i64 0,.int .i64 0,.int .i64 0,.int .i64 0,.int .i64 0,.int .i64 0,.int .i64 0,.int .i64 0,.int .i64 0,.int .i64 0,.int .i64 0,.int .i64 0,.int .i64 0,.int .i64 0] 69))
  go_enter Tryz.func100,Tryz.ntmps100
  go_wp2_with fail
  refine named_calls fun wr hwr=>?_
  rw [←hwr] at V Z B
  clear hwr
  have c0:=V.out.c0
  have z0:=V.out.frozen 0
  refine (rbyte_any _ _).mono ?_
  rintro e w' ⟨rfl,hw⟩
  subst w'
  generalize f i%65536=v at *
  generalize b%256=c at *
  have ci:=V.out.at i hi
  go_wp2_with (first|(go_at_call 62;refine (CW.out _).mono ?_;rintro e w' ⟨rfl,hw⟩;subst w'))
  have k0:=kept_cell c0 V.out.lt
  haveI:=kept_some wr
  refine wp_region_kept_shut _ _ (show _=[_,_,_,_,_,_,_,_,_]++[_] from rfl) (by kernel_rfl) (by kernel_rfl) (by kernel_rfl) ?_
  repeat (go_big_quiet_step ((first|(go_at_call 142;exact kept_call (CM.out _))|(go_at_call 141;exact kept_same (CO.out _)))))
  refine wpQuiet_nil ?_
  rintro _ ⟨wk,rfl⟩
  have VK:=V.out.next wk.below
  have ZK:=(wk.block (w.heap.size+1) (lt_of_block Z.out)).trans Z.out
  have BK:=bnext B.out wk.below
  clear ci
  have ci:=VK.at i hi
  have zi:=VK.frozen (1+i)
  have V1:=hide (VK.set i y)
  have Z1:=hide ((heap_setCell_other _ ⟨w.heap.size,1+i,none⟩ (w.heap.size+1) (.int .i64 y) (by simp)).trans ZK)
  have B1:=hide (BK.setCell (p:=⟨w.heap.size,1+i,none⟩) (Nat.le_refl _) (.int .i64 y))
  clear VK ZK BK V Z B k0 CM CO CW c0 z0
  go_wp2_with fail
  obtain ⟨wt,hwt⟩:∃wt,wt=wk.val.setCell ⟨w.heap.size,1+i,none⟩ (.int .i64 y):=⟨_,rfl⟩
  rw [←hwt] at V1 Z1 B1 ⊢
  clear hwt ci zi
  have k0:=kept_cell V1.out.c0 V1.out.lt
  haveI:=kept_some wt
  refine wp_region_kept_shut2 _ _ _ (show _=([_,_,_,_,_]++[_])++[_] from rfl) (by kernel_rfl) (by kernel_rfl) (by kernel_rfl) (by kernel_rfl) ?_
  repeat (first
   |(refine wpQuiet_row rfl 69 (.tmp 3) rfl w.heap.size rfl 69 _ (0,0) _ (fun w' ⟨x,hx⟩=>by rw [hx];exact (x.block _ V1.out.lt).trans V1.out) Tryz.underlying69 rfl (info_R _ _) ?_;simp only [Act.put,List.setIfInBounds_toArray,List.set_cons_succ,List.set_cons_zero])
   |go_big_quiet_step ((go_at_call 143;exact kept_same (CE.out _))))
  refine wpQuiet_nil ?_
  rintro _ ⟨wj,rfl⟩
  have Z2:=hide ((wj.block (w.heap.size+1) (lt_of_block Z1.out)).trans Z1.out)
  have B2:=hide (bnext B1.out wj.below)
  clear V1 Z1 B1 k0 CE
  go_wp2_with (first
   |(refine wpList_store_row rfl 69 (.tmp 6) (.tmp 60) rfl (w.heap.size+1) _ rfl rfl 69 _ Z2.out (info_R _ _) (by rw [rowG_size];rfl) (rowG_one _ _) ?_)
   |(refine bodyPost_ret (results_agg_tmp rfl _ _ (w.heap.size+1) 69 _ (0,0) _ rfl (setRow_heap _ _ _ _ _ _ Z2.out) Tryz.underlying69 rfl (info_R _ _)) rfl ⟨rfl,below_setRow B2.out (Nat.le_succ _) _⟩))
end Go.Proofs.YtnllcknfmciebaaGreatDoor.R15
