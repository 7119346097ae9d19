/- Texts put together. -/
import Derived.Test.YtdiidjehdginnaaGreatDoorRows
import Derived.Laws.StructEq
import Derived.Laws.Rows
import Derived.Laws.Tables
import Derived.Laws.ResultCell
import Derived.Laws.CopyOwn
import Derived.RegionTactic
import Derived.LaidEql
import Derived.WalkMore
import Derived.WalkKit
import Derived.Below
import Derived.OneCell
import Derived.Handy
import Derived.Test.YtdiidjehdginnaaGreatDoorConsoleCountsJ02
import Derived.Test.YtdiidjehdginnaaGreatDoorConsoleCountsJ06
import Derived.Deep.Quiet
import Derived.BigFrame
namespace Go.Proofs.YtdiidjehdginnaaGreatDoor.I11
set_option maxRecDepth 20000
variable {l m:Int} {b:Nat} {w:World}
theorem zln (y:Int):IntKind.i64.wrap y%8=y%8:=by rw [IntKind.wrap_i64];omega
theorem zfW (n:Int):(n%((2 ^ 64:Nat):Int)).toNat%2 ^ 3=(n%8).toNat:=by omega
def or3 (a b:Int):Int:=(((a%8).toNat ||| (b%8).toNat:Nat):Int)
def bic3 (a b:Int):Int:=(((a%8).toNat ^^^ ((a%8).toNat &&& (b%8).toNat):Nat):Int)
def and3 (a b:Int):Int:=(((a%8).toNat &&& (b%8).toNat:Nat):Int)
theorem zyj (a b:Int):bits .or .i64 a b%8=or3 a b:=by
 have e:(BitVec.ofInt 64 a ||| BitVec.ofInt 64 b).toNat%2 ^ 3=(a%8).toNat ||| (b%8).toNat:=by
  rw [BitVec.toNat_or,BitVec.toNat_ofInt,BitVec.toNat_ofInt,Nat.or_mod_two_pow,zfW,zfW]
 show IntKind.i64.wrap ((BitVec.ofInt 64 a ||| BitVec.ofInt 64 b).toNat:Nat)%8=_;rw [zln];unfold or3;rw [←e];omega
theorem znv (a b:Int):bits .andNot .i64 a b%8=bic3 a b:=by
 have k:BitVec.ofInt 64 a &&& ~~~ BitVec.ofInt 64 b=BitVec.ofInt 64 a ^^^ (BitVec.ofInt 64 a &&& BitVec.ofInt 64 b):=by
  ext i hi
  simp only [BitVec.getElem_and,BitVec.getElem_not,BitVec.getElem_xor];cases (BitVec.ofInt 64 a)[i]<;>cases (BitVec.ofInt 64 b)[i]<;>rfl
 have e:(BitVec.ofInt 64 a &&& ~~~ BitVec.ofInt 64 b).toNat%2 ^ 3=(a%8).toNat ^^^ ((a%8).toNat &&& (b%8).toNat):=by
  rw [k,BitVec.toNat_xor,BitVec.toNat_and,BitVec.toNat_ofInt,BitVec.toNat_ofInt,Nat.xor_mod_two_pow,Nat.and_mod_two_pow,zfW,zfW]
 show IntKind.i64.wrap ((BitVec.ofInt 64 a &&& ~~~ BitVec.ofInt 64 b).toNat:Nat)%8=_;rw [zln];unfold bic3;rw [←e];omega
theorem znw (n m:Int) (h0:0≤m) (h1:m<8):bits .and .i64 n m=and3 n m:=by
 obtain ⟨m,rfl⟩:=Int.eq_ofNat_of_zero_le h0;have hm8:((m:Int)%8).toNat=m:=by omega
 have e:(BitVec.ofInt 64 n &&& BitVec.ofInt 64 (m:Int)).toNat=(n%8).toNat &&& m:=by
  rw [BitVec.toNat_and,BitVec.ofInt_natCast,BitVec.toNat_ofNat,Nat.mod_eq_of_lt (by omega:m<2 ^ 64),BitVec.toNat_ofInt];have h2:m=m%2 ^ 3:=(Nat.mod_eq_of_lt (by omega)).symm;rw [←zfW];generalize (n%((2 ^ 64:Nat):Int)).toNat=x
  conv=>rhs;rw [h2,←Nat.and_mod_two_pow]
  exact (Nat.mod_eq_of_lt (Nat.and_lt_two_pow _ (by omega))).symm
 show IntKind.i64.wrap ((BitVec.ofInt 64 n &&& BitVec.ofInt 64 (m:Int)).toNat:Nat)=_;rw [e];have:=Nat.and_lt_two_pow (n%8).toNat (n:=3) (y:=m) (by omega);rw [zbE _ (by omega) (by omega)];unfold and3;rw [hm8]
theorem zeY (n:Int):n%8%8=n%8:=by omega
theorem zyk (a b:Int):or3 a b=or3 (a%8) (b%8):=by unfold or3;rw [zeY,zeY]
theorem zvf (a b:Int):bic3 a b=bic3 (a%8) (b%8):=by unfold bic3;rw [zeY,zeY]
theorem znx (a b:Int):and3 a b=and3 (a%8) (b%8):=by unfold and3;rw [zeY,zeY]
theorem zvg {p:Int→Prop} (h:∀x:Fin 8,p (x.val:Int)) {n:Int} (h0:0≤n) (h1:n<8):p n:=by
 have:=h ⟨n.toNat,by omega⟩;have e:((n.toNat:Nat):Int)=n:=by omega
 simpa only [e] using this
theorem zwQ {p:Int→Int→Prop} (h:∀x y:Fin 8,p (x.val:Int) (y.val:Int)) {a b:Int} (a0:0≤a) (a1:a<8) (b0:0≤b) (b1:b<8):p a b:=
 zvg (p:=fun a=>p a b) (fun x=>zvg (p:=fun b=>p (x.val:Int) b) (fun y=>h x y) b0 b1) a0 a1
theorem zcL (n:Int):0≤n%8∧n%8<8:=by omega
theorem zwR (a b:Int):0≤or3 a b∧or3 a b<8:=by
 rw [zyk];exact zwQ (p:=fun a b=>0≤or3 a b∧or3 a b<8) (by decide +kernel) (zcL a).1 (zcL a).2 (zcL b).1 (zcL b).2
theorem zyl (a b:Int):0≤bic3 a b∧bic3 a b<8:=by
 rw [zvf];exact zwQ (p:=fun a b=>0≤bic3 a b∧bic3 a b<8) (by decide +kernel) (zcL a).1 (zcL a).2 (zcL b).1 (zcL b).2
def zrG (x:Int):Int:=if 4≤x%8 then 65530 else if 2≤x%8 then 65528 else if 1≤x%8 then 65526 else 0
def zrH (x:Int):Bool:=decide (1≤x%8)
theorem zym (n:Int):bits .and .i64 n 4=if 4≤n%8 then 4 else 0:=by
 rw [znw n 4 (by decide) (by decide),znx];exact zvg (p:=fun x=>and3 x (4%8)=if 4≤x then 4 else 0) (by decide +kernel) (zcL n).1 (zcL n).2
theorem and_2 (n:Int):bits .and .i64 n 2=if 2≤n%4 then 2 else 0:=by
 rw [znw n 2 (by decide) (by decide),znx,show n%4=n%8%4 by omega];exact zvg (p:=fun x=>and3 x (2%8)=if 2≤x%4 then 2 else 0) (by decide +kernel) (zcL n).1 (zcL n).2
open Go.RowKit
set_option linter.unusedVariables false
def HasS (w:World) (b:Nat) (m l:Int):Prop:=w.heap[b]? = some (.cells #[.int .i64 m,.int .i64 l] 53 (0,0))
theorem HasS.next {w':World} (h:HasS w b m l) (k:Below w.heap.size w w'):HasS w' b m l:=(k.block b (lt_of_block h)).trans h
theorem zvh (w:World) (m l:Int):HasS (w.alloc (.cells #[.int .i64 m,.int .i64 l] 53)) w.heap.size m l:=heap_alloc_new _ _
theorem HasS.c0 (h:HasS w b m l):w.cell? ⟨b,0,none⟩=some (.int .i64 m):=(cell_of_row w b 0 _ _ _ h).trans rfl
theorem HasS.c1 (h:HasS w b m l):w.cell? ⟨b,1,none⟩=some (.int .i64 l):=(cell_of_row w b 1 _ _ _ h).trans rfl
theorem cut_any (m l:Int) (w:World):Calls Tryz.prog 104 #[.int .i64 m,.int .i64 l] w fun e w'=>e=.returned (.agg #[.int .i64 (m%8),.int .i64 (l%8)])∧Below w.heap.size w w':=by
 have e1:=zhK m;have e2:=zhK l;go_enter Tryz.func104,Tryz.ntmps104;go_wp2;go_returns;exact ⟨rfl,(Below.refl _ w).alloc (Nat.le_refl _) _⟩
def zwS (l n:Int) (on:Bool):Int:=if on then or3 l n else bic3 l n
theorem zfX (m l n:Int) (on:Bool) (w:World):Calls Tryz.prog 65 #[.agg #[.int .i64 m,.int .i64 l],.int .i64 n,.bool on] w fun e w'=>
  e=.returned (.agg #[.int .i64 (m%8),.int .i64 (zwS l n on)])∧Below w.heap.size w w':=by
 cases on
 ·show Calls Tryz.prog 65 _ w fun e w'=>e=.returned (.agg #[.int .i64 (m%8),.int .i64 (bic3 l n)])∧Below w.heap.size w w'
  have C:=hide (cut_any m (bits .andNot .i64 l n));rw [znv] at C;generalize bic3 l n=q at *;generalize m%8=r at *;go_enter Tryz.func65,Tryz.ntmps65;go_wp2_with fail;refine (C.out _).mono ?_;rintro e w1 ⟨rfl,b1⟩;have R3:=hide ((b1.block (w.heap.size+1) (by simp)).trans (heap_alloc2_new _ _ _));have B3:=hide (zaz (((Below.refl _ w).alloc (Nat.le_refl _) _).alloc (by simp) _) b1);clear b1 C
  go_wp2_with (first
   |(refine wpList_store_row rfl 53 (.tmp 6) (.tmp 21) rfl (w.heap.size+1) _ rfl rfl 53 _ R3.out (by kernel_rfl) rfl (by kernel_rfl) ?_))
  (try simp only [Exit.inBlock,Exit.then])
  refine bodyPost_ret (results_cell_row rfl _ _ (w.heap.size+1) 53 _ (0,0) _ rfl (setRow_heap _ _ _ _ _ _ R3.out) Tryz.underlying53 rfl (by kernel_rfl)) rfl ?_;exact ⟨rfl,below_setRow B3.out (Nat.le_succ _) _⟩
 ·show Calls Tryz.prog 65 _ w fun e w'=>e=.returned (.agg #[.int .i64 (m%8),.int .i64 (or3 l n)])∧Below w.heap.size w w'
  have C:=hide (cut_any m (bits .or .i64 l n));rw [zyj] at C;generalize or3 l n=q at *;generalize m%8=r at *;go_enter Tryz.func65,Tryz.ntmps65;go_wp2_with fail;refine (C.out _).mono ?_;rintro e w1 ⟨rfl,b1⟩;have R3:=hide ((b1.block (w.heap.size+1) (by simp)).trans (heap_alloc2_new _ _ _));have B3:=hide (zaz (((Below.refl _ w).alloc (Nat.le_refl _) _).alloc (by simp) _) b1);clear b1 C
  go_wp2_with (first
   |(refine wpList_store_row rfl 53 (.tmp 6) (.tmp 14) rfl (w.heap.size+1) _ rfl rfl 53 _ R3.out (by kernel_rfl) rfl (by kernel_rfl) ?_))
  (try simp only [Exit.inBlock,Exit.then])
  refine bodyPost_ret (results_cell_row rfl _ _ (w.heap.size+1) 53 _ (0,0) _ rfl (setRow_heap _ _ _ _ _ _ R3.out) Tryz.underlying53 rfl (by kernel_rfl)) rfl ?_;exact ⟨rfl,below_setRow B3.out (Nat.le_succ _) _⟩
theorem write_2 (m l b:Int) (w:World):Calls Tryz.prog 213 #[.agg #[.int .i64 m,.int .i64 l],.int .i64 2,.int .i64 b] w fun e w'=>
  e=.returned (.agg #[.int .i64 (b%8),.int .i64 (l%8)])∧Below w.heap.size w w':=by
 have C:=hide (cut_any b l);generalize b%8=q at *;generalize l%8=r at *;go_enter Tryz.func213,Tryz.ntmps213;go_wp2_with fail;refine (C.out _).mono ?_;rintro e w1 ⟨rfl,b1⟩;have R3:=hide ((b1.block (w.heap.size+1) (by simp)).trans (heap_alloc2_new _ _ _));have B3:=hide (zaz (((Below.refl _ w).alloc (Nat.le_refl _) _).alloc (by simp) _) b1);clear b1 C
 go_wp2_with (first
  |(refine wpList_store_row rfl 53 (.tmp 6) (.tmp 13) rfl (w.heap.size+1) _ rfl rfl 53 _ R3.out (by kernel_rfl) rfl (by kernel_rfl) ?_))
 (try simp only [Exit.inBlock,Exit.then])
 refine bodyPost_ret (results_cell_row rfl _ _ (w.heap.size+1) 53 _ (0,0) _ rfl (setRow_heap _ _ _ _ _ _ R3.out) Tryz.underlying53 rfl (by kernel_rfl)) rfl ?_;exact ⟨rfl,below_setRow B3.out (Nat.le_succ _) _⟩
theorem write_3 (m l b:Int) (w:World):Calls Tryz.prog 213 #[.agg #[.int .i64 m,.int .i64 l],.int .i64 3,.int .i64 b] w fun e w'=>
  e=.returned (.agg #[.int .i64 (m%8),.int .i64 (bic3 l 4)])∧Below w.heap.size w w':=by
 have C:=hide (zfX m l 4 false);rw [show zwS l 4 false=bic3 l 4 from rfl] at C;generalize bic3 l 4=q at *;generalize m%8=r at *;go_enter Tryz.func213,Tryz.ntmps213;go_wp2_with fail;refine (C.out _).mono ?_;rintro e w1 ⟨rfl,b1⟩;have R3:=hide ((b1.block (w.heap.size+1) (by simp)).trans (heap_alloc2_new _ _ _));have B3:=hide (zaz (((Below.refl _ w).alloc (Nat.le_refl _) _).alloc (by simp) _) b1);clear b1 C
 go_wp2_with (first
  |(refine wpList_store_row rfl 53 (.tmp 6) (.tmp 17) rfl (w.heap.size+1) _ rfl rfl 53 _ R3.out (by kernel_rfl) rfl (by kernel_rfl) ?_))
 (try simp only [Exit.inBlock,Exit.then])
 refine bodyPost_ret (results_cell_row rfl _ _ (w.heap.size+1) 53 _ (0,0) _ rfl (setRow_heap _ _ _ _ _ _ R3.out) Tryz.underlying53 rfl (by kernel_rfl)) rfl ?_;exact ⟨rfl,below_setRow B3.out (Nat.le_succ _) _⟩
theorem write_no (m l a b:Int) (h2:¬a=2) (h3:¬a=3) (w:World):Calls Tryz.prog 213 #[.agg #[.int .i64 m,.int .i64 l],.int .i64 a,.int .i64 b] w fun e w'=>
  e=.returned (.agg #[.int .i64 m,.int .i64 l])∧Below w.heap.size w w':=by
 go_enter Tryz.func213,Tryz.ntmps213;go_wp2;go_returns;exact ⟨rfl,((Below.refl _ w).alloc (Nat.le_refl _) _).alloc (by simp) _⟩
def zcw (m l a:Int):Int:=if a=2 then m%8 else if a=3 then l%8 else 0
theorem read_any (m l a:Int) (w:World):Calls Tryz.prog 179 #[.agg #[.int .i64 m,.int .i64 l],.int .i64 a] w fun e w'=>
  e=.returned (.int .i64 (zcw m l a))∧Below w.heap.size w w':=by
 unfold zcw;have e1:=zhK m;have e2:=zhK l
 by_cases h2:a=2
 ·subst h2;rw [if_pos rfl];go_enter Tryz.func179,Tryz.ntmps179;go_wp2;go_ret;exact ⟨rfl,(Below.refl _ w).alloc (Nat.le_refl _) _⟩
 ·rw [if_neg h2]
  by_cases h3:a=3
  ·subst h3;rw [if_pos rfl];go_enter Tryz.func179,Tryz.ntmps179;go_wp2;go_ret;exact ⟨rfl,(Below.refl _ w).alloc (Nat.le_refl _) _⟩
  ·rw [if_neg h3];go_enter Tryz.func179,Tryz.ntmps179;go_wp2;go_ret;exact ⟨rfl,(Below.refl _ w).alloc (Nat.le_refl _) _⟩
def zeZ:Array Value:=#[.int .i64 4,.int .i64 65530,.int .i64 2,.int .i64 65528,.int .i64 1,.int .i64 65526]
def zny (w:World):Prop:=∃t fr,w.heap[3]? = some (.cells zeZ t fr)
def zid (j:Nat):Int:=[(4:Int),2,1].getD j 0
def atAt (j:Nat):Int:=[(65530:Int),65528,65526].getD j 0
theorem zrI (j:Nat) (hj:j<3) (w:World):(Instr.index 235 (.agg zeZ) (.int .i64 (j:Int))).run Tryz.prog w=.ok (.agg #[.int .i64 (zid j),.int .i64 (atAt j)]) w:=by
 rcases j with _|_|_|j
 ·kernel_rfl
 ·kernel_rfl
 ·kernel_rfl
 ·omega
theorem zvi (m l x n:Int) (b:Nat) (w:World) (h0:w.cell? ⟨b,0,none⟩=some (.int .i64 m)) (h1:w.cell? ⟨b,1,none⟩=some (.int .i64 l)) (hx:bits .andNot .i64 l m=x):
  Calls Tryz.prog 133 #[.int .i64 n,.pointer (some ⟨b,0,none⟩)] w fun e w'=>e=.returned (.bool (bits .and .i64 x n != 0))∧w'=w:=by
 go_enter Tryz.func133,Tryz.ntmps133;go_wp2;go_ret;exact ⟨rfl,rfl⟩
theorem zyn (m l p x:Int) (hx:bits .andNot .i64 l m=x) (hp:bits .and .i64 p 4=0) (w:World) (cs:Array Value) (t:TypeId) (fr:Nat×Nat) (hT:w.heap[3]? = some (.cells cs t fr)) (hs:some 6=some cs.size)
  (hi:∀(j:Nat),j<3→∀w:World,(Instr.index 235 (.agg cs) (.int .i64 (j:Int))).run Tryz.prog w=.ok (.agg #[.int .i64 (zid j),.int .i64 (atAt j)]) w):
  Calls Tryz.prog 93 #[.agg #[.int .i64 m,.int .i64 l],.int .i64 p] w fun e w'=>
   ((∃j,j<3∧bits .and .i64 x (zid j)≠0∧(∀i,i<j→bits .and .i64 x (zid i)=0)∧e=.returned (.tuple #[.int .i64 (atAt j),.bool true]))∨((∀i,i<3→bits .and .i64 x (zid i)=0)∧e=.returned (.tuple #[.int .i64 0,.bool false])))∧Below w.heap.size w w':=by
 have hz:(Tryz.prog.info? 235).map (·.size)=some cs.size:=Eq.trans (by kernel_rfl) hs;have HX:=hide hi;have HT:=hide hT;have HI:=hide hz;have FX:=hide hx;clear hs hi hT hz hx;go_enter Tryz.func93,Tryz.ntmps93;have HU:=hide ((((Below.refl _ w).alloc (Nat.le_refl _) (.cells #[.int .i64 m,.int .i64 l] 53)).block 3 (lt_of_block HT.out)).trans HT.out);go_wp2_with (first|(refine wpList_load_row rfl 235 (.global 3) rfl 3 rfl t cs fr _ HU.out Tryz.underlying235 rfl HI.out ?_));obtain ⟨wa,hwa⟩:∃wa,wa=w.alloc (.cells #[.int .i64 m,.int .i64 l] 53):=⟨_,rfl⟩
 rw [←hwa];have ba:=hide (show Below w.heap.size w wa by rw [hwa];exact (Below.refl _ w).alloc (Nat.le_refl _) _);have ra:=hide (show HasS wa w.heap.size m l by rw [hwa];exact zvh w m l);clear hwa HU HT;go_loopw [14] (fun si wr=>∃j:Nat,j≤3∧si=.int .i64 (j:Int)∧(∀i,i<j→bits .and .i64 x (zid i)=0)∧Below wa.heap.size wa wr) (fun si _=>3-(intOf si).toNat)
 case atStart=>exact ⟨0,by omega,rfl,fun i hi=>absurd hi (by omega),Below.refl _ _⟩
 case round=>
  obtain ⟨j,hj,rfl,hne,bel⟩:=hrel;have HN:=hide hne;have BL:=hide bel;clear hne bel
  by_cases h:j<3
  ·have hx:=HX.out j h;obtain ⟨n,hn⟩:∃n,n=zid j:=⟨_,rfl⟩
   obtain ⟨k,hk⟩:∃k,k=atAt j:=⟨_,rfl⟩
   rw [←hn,←hk] at hx;have HP:=hide hn;have HK:=hide hk;clear hn hk;have BM:=hide (BL.out.alloc BL.out.size (.cells #[.int .i64 n,.int .i64 k] 234));have cf:=hide (zvi m l x n w.heap.size _ ((ra.out.next BM.out).c0) ((ra.out.next BM.out).c1) FX.out)
   by_cases hq:bits .and .i64 x n=0
   ·rw [show (bits .and .i64 x n != 0)=false by rw [hq];rfl] at cf;have HQ:=hide hq;clear hq;go_wp2_with (first|(refine cf.out.mono ?_;rintro e w1 ⟨rfl,rfl⟩));go_roundw
    case rel=>
     refine ⟨j+1,by omega,by go_num,fun i hi=>?_,BM.out⟩
     by_cases hij:i=j
     ·subst hij;rw [←HP.out];exact HQ.out
     ·exact HN.out i (by omega)
    case measure=>simp [intOf];omega
   ·rw [show (bits .and .i64 x n != 0)=true by simp [hq]] at cf;have HQ:=hide hq;clear hq;go_wp2_with (first|(refine cf.out.mono ?_;rintro e w1 ⟨rfl,rfl⟩));go_ret2;refine ⟨.inl ⟨j,h,by rw [←HP.out];exact HQ.out,HN.out,ziZ HK.out rfl⟩,zaz ba.out BM.out⟩
  ·have hj:j=3:=by omega
   subst hj;go_wp2_with fail;go_ret2;exact ⟨.inr ⟨HN.out,rfl⟩,zaz ba.out BL.out⟩
theorem zrJ (m l p:Int) (hp:p%8<4) (w:World) (hT:zny w):
  Calls Tryz.prog 93 #[.agg #[.int .i64 m,.int .i64 l],.int .i64 p] w fun e w'=>e=.returned (.tuple #[.int .i64 (zrG (bic3 l m)),.bool (zrH (bic3 l m))])∧Below w.heap.size w w':=by
 obtain ⟨t,fr,hT⟩:=hT;have h4:bits .and .i64 p 4=0:=by rw [zym,if_neg (by omega)]
 refine (zyn m l p _ rfl h4 w zeZ t fr hT rfl (fun j hj w=>zrI j hj w)).mono ?_;have hx:=znv l m;generalize bits .andNot .i64 l m=x at *;rw [←hx];clear hx;have a4:=zym x;have a2:=and_2 x;have a1:=zho x;rintro e w' ⟨⟨j,hj,hn,hb,rfl⟩|⟨hb,rfl⟩,b⟩
 ·refine ⟨?_,b⟩;rcases j with _|_|_|j
  ·have h:bits .and .i64 x 4≠0:=hn;have h2:4≤x%8:=by rw [a4] at h;split at h<;>first|assumption|exact absurd rfl h
   refine ziZ ?_ ?_
   ·unfold zrG;rw [if_pos (by omega)];rfl
   ·unfold zrH;rw [decide_eq_true (by omega)]
  ·have h:bits .and .i64 x 2≠0:=hn;have k:bits .and .i64 x 4=0:=hb 0 (by decide);have h2:2≤x%4:=by rw [a2] at h;split at h<;>first|assumption|exact absurd rfl h
   have k2:x%8<4:=by rw [a4] at k;split at k<;>omega
   refine ziZ ?_ ?_
   ·unfold zrG;rw [if_neg (by omega),if_pos (by omega)];rfl
   ·unfold zrH;rw [decide_eq_true (by omega)]
  ·have h:bits .and .i64 x 1≠0:=hn;have k:bits .and .i64 x 4=0:=hb 0 (by decide);have g:bits .and .i64 x 2=0:=hb 1 (by decide);have h2:x%2=1:=by rw [a1] at h;omega
   have k2:x%8<4:=by rw [a4] at k;split at k<;>omega
   have g2:x%4<2:=by rw [a2] at g;split at g<;>omega
   refine ziZ ?_ ?_
   ·unfold zrG;rw [if_neg (by omega),if_neg (by omega),if_pos (by omega)];rfl
   ·unfold zrH;rw [decide_eq_true (by omega)]
  ·omega
 ·refine ⟨?_,b⟩;have k:bits .and .i64 x 4=0:=hb 0 (by decide);have g:bits .and .i64 x 2=0:=hb 1 (by decide);have h:bits .and .i64 x 1=0:=hb 2 (by decide);have h2:x%2=0:=by rw [a1] at h;omega
  have k2:x%8<4:=by rw [a4] at k;split at k<;>omega
  have g2:x%4<2:=by rw [a2] at g;split at g<;>omega
  refine ziZ ?_ ?_
  ·unfold zrG;rw [if_neg (by omega),if_neg (by omega),if_neg (by omega)]
  ·unfold zrH;rw [decide_eq_false (by omega)]
theorem zrK (m l p:Int) (hp:4≤p%8) (w:World):
  Calls Tryz.prog 93 #[.agg #[.int .i64 m,.int .i64 l],.int .i64 p] w fun e w'=>e=.returned (.tuple #[.int .i64 0,.bool false])∧Below w.heap.size w w':=by
 have h4:bits .and .i64 p 4=4:=by rw [zym,if_pos hp]
 go_enter Tryz.func93,Tryz.ntmps93;go_wp2;go_ret2;exact ⟨rfl,(Below.refl _ w).alloc (Nat.le_refl _) _⟩
end Go.Proofs.YtdiidjehdginnaaGreatDoor.I11
namespace Go.Proofs.YtdiidjehdginnaaGreatDoor.L24
set_option maxRecDepth 20000
open B4 C3 G6 I11 M5 P22 R15 T10 W13
open Go.RowKit
set_option linter.unusedVariables false
variable {o:Bool} {bu hd l lo m r rd st t wr x:Int} {L:List (Nat×(Nat→Value))} {bs:List Int} {b c d v:Nat} {f:Nat→Int} {u:Nat→Value} {w:World}
def tv (r c:Int) (o:Bool) (p:Int):Nat→Value:=fun j=>if j=0 then .int .i64 r else if j=1 then .int .i64 c else if j=2 then .bool o else .int .i64 p
def sv (m l:Int):Nat→Value:=fun j=>if j=0 then .int .i64 m else .int .i64 l
theorem zrL (r c:Int) (o:Bool) (p:Int):rowF (tv r c o p) 4=#[.int .i64 r,.int .i64 c,.bool o,.int .i64 p]:=rfl
theorem zhg (m l:Int):rowF (sv m l) 2=#[.int .i64 m,.int .i64 l]:=rfl
theorem zrM (r c:Int) (o:Bool) (p:Int):∀j,j<4→(tv r c o p j).oneCell'=true:=fun j _=>by
 unfold tv;split
 ·rfl
 ·split
  ·rfl
  ·split<;>rfl
theorem znz (m l:Int):∀j,j<2→(sv m l j).oneCell'=true:=fun j _=>by
 unfold sv;split<;>rfl
def goT (r c:Int) (o:Bool) (p t:Int):Bool:=(o&&okT r c o p)&&decide (1≤t∧t≤1099511627776)
def cT (r c:Int) (o:Bool) (p t:Int):Int:=if goT r c o p t=true then zpb r c ((t+p)/3072) else c
def pT (r c:Int) (o:Bool) (p t:Int):Int:=if goT r c o p t=true then (t+p)%3072 else p
def kT (r c:Int) (o:Bool) (p t:Int):Int:=if goT r c o p t=true then zgG r c ((t+p)/3072) else 0
theorem zAO (r c:Int) (o:Bool) (p t:Int) (w:World):Calls Tryz.prog 64 #[.agg (rowF (tv r c o p) 4),.int .i64 t] w fun e w'=>e=Ending.returned (.tuple #[.agg (rowF (tv r (cT r c o p t) o (pT r c o p t)) 4),.int .i64 (kT r c o p t)])∧Below w.heap.size w w':=by
 rw [zrL,zrL];unfold cT pT kT
 by_cases h:goT r c o p t=true
 ·rw [if_pos h,if_pos h,if_pos h];unfold goT at h;simp only [Bool.and_eq_true,decide_eq_true_eq] at h;obtain ⟨⟨rfl,h1⟩,h2,h3⟩:=h;exact zAN r c p t h1 h2 h3 w
 ·rw [if_neg h,if_neg h,if_neg h];refine zrF r c o p t ?_ w;cases hv:(o&&okT r c o p)
  ·exact .inl rfl
  ·right
   unfold goT at h;rw [hv] at h;simp at h;omega
def mT (m k:Int):Int:=if 0<k then m%8 else m
def lT (l k:Int):Int:=if 0<k then or3 l 4 else l
def setL (L:List (Nat×(Nat→Value))) (r n:Int) (o:Bool) (p t m l:Int):List (Nat×(Nat→Value)):=((L.set 12 (4,tv r (cT r n o p t) o (pT r n o p t))).set 17 (1,fun _=>Value.int .i64 0)).set 13 (2,sv (mT m (kT r n o p t)) (lT l (kT r n o p t)))
theorem zfY (h:HasX w b v c d L bs f wr rd st lo bu) {n:Int} {p:Int} (h12:L[12]? = some (4,tv r n o p)) (h13:L[13]? = some (2,sv m l)) (h17:L[17]? = some (1,fun _=>Value.int .i64 t)):
  Calls Tryz.prog 31 #[.pointer (some ⟨b,0,none⟩)] w fun e w'=>e=Ending.returned (.tuple #[])∧HasX w' b v c d (setL L r n o p t m l) bs f wr rd st lo bu∧OnlyE (EX b v) w w':=by
 by_cases hk:0<kT r n o p t
 ·have k:=zlg h h12 h17 h13 (zAO r n o p t) (zrM _ _ _ _) hk (s':=sv (m%8) (or3 l 4)) (fun w=>by rw [zhg,zhg];exact zfX m l 4 true w) (znz _ _);have e:setL L r n o p t m l=(((L.set 12 (4,tv r (cT r n o p t) o (pT r n o p t))).set 17 (1,fun _=>Value.int .i64 0)).set 13 (2,sv (m%8) (or3 l 4))):=by
   unfold setL mT lT;rw [if_pos hk,if_pos hk]
  rw [e];exact k
 ·have k:=zrb h h12 h17 (zAO r n o p t) (zrM _ _ _ _) hk;have e:setL L r n o p t m l=((L.set 12 (4,tv r (cT r n o p t) o (pT r n o p t))).set 17 (1,fun _=>Value.int .i64 0)):=by
   unfold setL mT lT;rw [if_neg hk,if_neg hk];exact zhU (zaB (zaB h13 _ (by decide)) _ (by decide))
  rw [e];exact k
theorem zrN {n:Int} {p:Int} (h:L[12]? = some (4,tv r n o p)):(setL L r n o p t m l)[12]? = some (4,tv r (cT r n o p t) o (pT r n o p t)):=zaB (zaB (zcp h _) _ (by decide)) _ (by decide)
theorem zrO {n:Int} {p:Int} (h:L[13]? = some (2,sv m l)):(setL L r n o p t m l)[13]? = some (2,sv (mT m (kT r n o p t)) (lT l (kT r n o p t))):=zcp (zaB (zaB h _ (by decide)) _ (by decide)) _
theorem zkc {n:Int} {p:Int} (i:Nat) (h:i≠12∧i≠13∧i≠17):(setL L r n o p t m l)[i]? = L[i]? :=zaB (zaB (zaB rfl _ (fun e=>h.1 e.symm)) _ (fun e=>h.2.2 e.symm)) _ (fun e=>h.2.1 e.symm)
def zAP (L:List (Nat×(Nat→Value))) (x m l:Int) (may:Bool):List (Nat×(Nat→Value)):=(L.set 3 (1,fun _=>Value.int .i64 x)).set 13 (2,sv (if may=true then m%8 else m) (if may=true then or3 l 2 else l))
theorem zAQ (h:HasX w b v c d L bs f wr rd st lo bu) {s n:Int} (may:Bool) (h3:L[3]? = some (1,fun _=>Value.int .i64 s)) (h13:L[13]? = some (2,sv m l)) (hx:bits .or .i64 s n=x):
  Calls Tryz.prog 91 #[.pointer (some ⟨b,0,none⟩),.int .i64 n,.bool may] w fun e w'=>e=Ending.returned (.tuple #[])∧HasX w' b v c d (zAP L x m l may) bs f wr rd st lo bu∧OnlyE (EX b v) w w':=by
 unfold zAP;cases may
 ·rw [if_neg (by decide),if_neg (by decide),zhU (zaB h13 _ (by decide))];exact zxU h h3 hx
 ·rw [if_pos rfl,if_pos rfl];exact zuB h h3 h13 hx (s':=sv (m%8) (or3 l 2)) (fun w=>by rw [zhg,zhg];exact zfX m l 2 true w) (znz _ _)
theorem zbx (p k g a:Int) (hk:zaH p=k) (hg:zcD p=g) (ha:atW p=a):∀w,HasPorts w→Calls Tryz.prog 106 #[.int .i64 p] w fun e w'=>e=Ending.returned (.agg #[.int .i64 k,.int .i64 g,.int .i64 a])∧Below w.heap.size w w':=fun w hp=>by
 have:=zlb p w hp;rw [hk,hg,ha] at this;exact this
def zAR (L:List (Nat×(Nat→Value))) (m l:Int):List (Nat×(Nat→Value)):=(L.set 3 (1,fun _=>Value.int .i64 0)).set 13 (2,sv (m%8) (bic3 l 2))
theorem zrP (h:HasX w b v c d L bs f wr rd st lo bu) (p g:Int) (hk:zaH p=2) (hg:zcD p=g) (ha:atW p=0) {s:Int} (h3:L[3]? = some (1,fun _=>Value.int .i64 s)) (h13:L[13]? = some (2,sv m l)) (hx:s%128=x):Calls Tryz.prog 67 #[.pointer (some ⟨b,0,none⟩),.int .i64 p] w fun e w'=>e=Ending.returned (.int .i64 x)∧HasX w' b v c d (zAR L m l) bs f wr rd st lo bu∧OnlyE (EX b v) w w':=by
 refine zhA h p g 0 (zbx p 2 g 0 hk hg ha) (R:=fun w'=>HasX w' b v c d (zAR L m l) bs f wr rd st lo bu∧OnlyE (EX b v) w w') fun w1 b1=>?_
 refine zrf (h.next b1) 2 g 0 rfl fun w2 b2=>?_
 exact (zjU ((h.next b1).next b2) h3 h13 hx (s':=sv (m%8) (bic3 l 2)) (fun w=>by rw [zhg,zhg];exact zfX m l 2 false w) (znz _ _)).mono fun e w' ⟨e1,x2,o2⟩=>⟨e1,x2,(zay (zaz b1 b2)).trans o2⟩
theorem zvj (h:HasX w b v c d L bs f wr rd st lo bu) (p g a i y:Int) (hk:zaH p=5) (hg:zcD p=g) (ha:atW p=a) (hy:i%256=y) {n:Int} {q:Int} (h12:L[12]? = some (4,tv r n o q)) (h13:L[13]? = some (2,sv m l)) (h17:L[17]? = some (1,fun _=>Value.int .i64 t))  (h16:L[16]? = some (1,fun _=>Value.int .i64 hd))  (KP:∀w,Calls Tryz.prog 211 #[.agg (rowF (tv r (cT r n o q t) o (pT r n o q t)) 4),.int .i64 a,.int .i64 y] w fun e w'=>e=Ending.returned (.agg (rowF u 4))∧Below w.heap.size w w') (hu:∀j,j<4→(u j).oneCell'=true):Calls Tryz.prog 160 #[.pointer (some ⟨b,0,none⟩),.int .i64 p,.int .i64 i] w fun e w'=>e=Ending.returned (.tuple #[])∧HasX w' b v c d (((setL L r n o q t m l).set 12 (4,u)).set 16 (1,fun _=>Value.int .i64 y)) bs f wr rd st lo bu∧OnlyE (EX b v) w w':=
 zmk h p i g a (zbx p 5 g a hk hg ha) y hy (fun w h=>zfY h h12 h13 h17) (zrN h12) KP hu ((zkc 16 (by decide)).trans h16)
theorem zAS (h:HasX w b v c d L bs f wr rd st lo bu) (p g a i y:Int) (hk:zaH p=7) (hg:zcD p=g) (ha:atW p=a) (hy:i%256=y) {n:Int} {q:Int} (h12:L[12]? = some (4,tv r n o q)) (h13:L[13]? = some (2,sv m l)) (h17:L[17]? = some (1,fun _=>Value.int .i64 t))  (h16:L[16]? = some (1,fun _=>Value.int .i64 hd))  (KP:∀w,Calls Tryz.prog 213 #[.agg (rowF (sv (mT m (kT r n o q t)) (lT l (kT r n o q t))) 2),.int .i64 a,.int .i64 y] w fun e w'=>e=Ending.returned (.agg (rowF u 2))∧Below w.heap.size w w') (hu:∀j,j<2→(u j).oneCell'=true):Calls Tryz.prog 160 #[.pointer (some ⟨b,0,none⟩),.int .i64 p,.int .i64 i] w fun e w'=>e=Ending.returned (.tuple #[])∧HasX w' b v c d (((setL L r n o q t m l).set 13 (2,u)).set 16 (1,fun _=>Value.int .i64 y)) bs f wr rd st lo bu∧OnlyE (EX b v) w w':=
 zrp h p i g a (zbx p 7 g a hk hg ha) y hy (fun w h=>zfY h h12 h13 h17) (zrO h13) KP hu ((zkc 16 (by decide)).trans h16)
theorem zvk (h:HasX w b v c d L bs f wr rd st lo bu) (p g a:Int) (hk:zaH p=5) (hg:zcD p=g) (ha:atW p=a) {n:Int} {q:Int} (h12:L[12]? = some (4,tv r n o q)) (h13:L[13]? = some (2,sv m l)) (h17:L[17]? = some (1,fun _=>Value.int .i64 t))  (h16:L[16]? = some (1,fun _=>Value.int .i64 hd)) {u:Int} (hu:bits .and .i64 hd 128=u) (hx:bits .or .i64 u (cT r n o q t)=x):Calls Tryz.prog 67 #[.pointer (some ⟨b,0,none⟩),.int .i64 p] w fun e w'=>e=Ending.returned (.int .i64 x)∧HasX w' b v c d ((setL L r n o q t m l).set 16 (1,fun _=>Value.int .i64 x)) bs f wr rd st lo bu∧OnlyE (EX b v) w w':=by
 refine zoP h p g a (zbx p 5 g a hk hg ha) (R:=fun w'=>HasX w' b v c d ((setL L r n o q t m l).set 16 (1,fun _=>Value.int .i64 x)) bs f wr rd st lo bu∧OnlyE (EX b v) w w') fun w1 b1=>?_
 exact (zlh (h.next b1) 5 g a (fun w h=>zfY h h12 h13 h17) ((zkc 16 (by decide)).trans h16) (zrN h12) hu hx (fun w=>by rw [zrL];exact read_any _ _ _ _ w)).mono fun e w' ⟨e1,x2,o2⟩=>⟨e1,x2,(zay b1).trans o2⟩
theorem zAT (h:HasX w b v c d L bs f wr rd st lo bu) (p g a:Int) (hk:zaH p=7) (hg:zcD p=g) (ha:atW p=a) (h23:a=2∨a=3) {n:Int} {q:Int} (h12:L[12]? = some (4,tv r n o q)) (h13:L[13]? = some (2,sv m l)) (h17:L[17]? = some (1,fun _=>Value.int .i64 t))  (h16:L[16]? = some (1,fun _=>Value.int .i64 hd)) {u:Int} (hu:bits .and .i64 hd 248=u) (hx:bits .or .i64 u (zcw (mT m (kT r n o q t)) (lT l (kT r n o q t)) a)=x):Calls Tryz.prog 67 #[.pointer (some ⟨b,0,none⟩),.int .i64 p] w fun e w'=>e=Ending.returned (.int .i64 x)∧HasX w' b v c d ((setL L r n o q t m l).set 16 (1,fun _=>Value.int .i64 x)) bs f wr rd st lo bu∧OnlyE (EX b v) w w':=by
 refine znn h p g a (zbx p 7 g a hk hg ha) (R:=fun w'=>HasX w' b v c d ((setL L r n o q t m l).set 16 (1,fun _=>Value.int .i64 x)) bs f wr rd st lo bu∧OnlyE (EX b v) w w') fun w1 b1=>?_
 exact (zoM (h.next b1) 7 g a h23 (fun w h=>zfY h h12 h13 h17) ((zkc 16 (by decide)).trans h16) (zrO h13) hu hx (fun w=>by rw [zhg];exact I11.read_any _ _ _ w)).mono fun e w' ⟨e1,x2,o2⟩=>⟨e1,x2,(zay b1).trans o2⟩
def ML (v c:Nat) (rg:Nat→Int) (s:Int) (mv:Bool) (lt:Int) (m ps tt po:Nat→Value) (k l hd t:Int):List (Nat×(Nat→Value)):=
 [(21,iv rg),(1,fun _=>.pointer (some ⟨v,0,none⟩)),(256,iv fun _=>0),(1,fun _=>Value.int .i64 s),(1,fun _=>.bool false),(1,fun _=>.bool mv),(1,fun _=>.pointer (some ⟨c,0,none⟩)),(1,fun _=>Value.int .i64 lt),(8192,m),(8,iv fl0),(514,iv fun _=>0),(244,ps),(4,tt),(2,sv k l),(4,po),(10,a0C),(1,fun _=>Value.int .i64 hd),(1,fun _=>Value.int .i64 t)]
theorem HasX.lag {v' c':Nat} (h:HasX w b v' c' d L bs f wr rd st lo bu)  (h17:L[17]? = some (1,fun _=>Value.int .i64 t)) (n:Int):HasX (w.setCell ⟨b,9262,none⟩ (.int .i64 n)) b v' c' d (L.set 17 (1,fun _=>Value.int .i64 n)) bs f wr rd st lo bu∧OnlyE (EX b v') w (w.setCell ⟨b,9262,none⟩ (.int .i64 n))∧w.cell? ⟨b,9262,none⟩=some (.int .i64 t)∧w.frozen? ⟨b,9262,none⟩=false:=by
 have k:=(But.refl b w).set 9262 (.int .i64 n);exact ⟨h.lay k 17 h17 (h.1.put1 17 h17 (a:=9262) (h.isB.off 17 rfl) _) (by decide) (by decide),zbr k,h.1.get1 17 h17 (a:=9262) (h.isB.off 17 rfl) (by decide),h.1.frozen 9262⟩
end Go.Proofs.YtdiidjehdginnaaGreatDoor.L24
namespace Go.Proofs.YtdiidjehdginnaaGreatDoor.V12
set_option maxRecDepth 20000
open Go.RowKit
set_option linter.unusedVariables false
variable {a c:Int} {b:Nat} {f:Nat→Int} {P:Program} {T:TypeId} {w:World}
def rowV (c a:Int) (f:Nat→Int):Array Value:=(.int .i64 c::.int .i64 a::(List.range 512).map fun j=>Value.int .i64 (f j)).toArray
theorem rowV_size (c a:Int) (f:Nat→Int):(rowV c a f).size=514:=by simp [rowV]
theorem rowV_0 (c a:Int) (f:Nat→Int):(rowV c a f)[0]? = some (.int .i64 c):=by simp [rowV]
theorem rowV_1 (c a:Int) (f:Nat→Int):(rowV c a f)[1]? = some (.int .i64 a):=by simp [rowV]
theorem rowV_at (c a:Int) (f:Nat→Int) (j:Nat) (h:j<512):(rowV c a f)[2+j]? = some (.int .i64 (f j)):=by
 rw [show 2+j=j+1+1 by omega];simp [rowV,h]
def HasV (T:TypeId) (w:World) (b:Nat) (c a:Int) (f:Nat→Int):Prop:=w.heap[b]? = some (.cells (rowV c a f) T (0,0))
theorem HasV.next {w':World} (h:HasV T w b c a f) (k:Below w.heap.size w w'):HasV T w' b c a f:=(k.block b (lt_of_block h)).trans h
theorem HasV.alloc (h:HasV T w b c a f) (x:Obj):HasV T (w.alloc x) b c a f:=h.next ((Below.refl _ w).alloc (Nat.le_refl _) _)
theorem zaN (T:TypeId) (w:World) (c a:Int) (f:Nat→Int):HasV T (w.alloc (.cells (rowV c a f) T)) w.heap.size c a f:=heap_alloc_new _ _
theorem HasV.lt (h:HasV T w b c a f):b<w.heap.size:=lt_of_block h
theorem HasV.c0 (h:HasV T w b c a f):w.cell? ⟨b,0,none⟩=some (.int .i64 c):=(cell_of_row w b 0 _ _ _ h).trans (rowV_0 c a f)
theorem HasV.c1 (h:HasV T w b c a f):w.cell? ⟨b,1,none⟩=some (.int .i64 a):=(cell_of_row w b 1 _ _ _ h).trans (rowV_1 c a f)
theorem HasV.at (h:HasV T w b c a f) (j:Nat) (hj:j<512):w.cell? ⟨b,2+j,none⟩=some (.int .i64 (f j)):=(cell_of_row w b (2+j) _ _ _ h).trans (rowV_at c a f j hj)
theorem HasV.frozen (h:HasV T w b c a f) (j:Nat):w.frozen? ⟨b,j,none⟩=false:=frozen_of_row w b j _ _ h
def upd (f:Nat→Int) (i:Nat) (v:Int):Nat→Int:=fun j=>if j=i then v else f j
def colOf (x:Int) (grey:Bool):Int:=if grey then (x/64*4+x/8%8*2+x%8)/7*73 else x
theorem zrQ (c a x:Int) (f:Nat→Int):(rowV c a f).setIfInBounds 0 (.int .i64 x)=rowV x a f:=by
 unfold rowV;rw [List.setIfInBounds_toArray];rfl
theorem zrR (c a x:Int) (f:Nat→Int):(rowV c a f).setIfInBounds 1 (.int .i64 x)=rowV c x f:=by
 unfold rowV;rw [List.setIfInBounds_toArray];rfl
theorem map_set (N i:Nat) (x:Int) (f:Nat→Int):((List.range N).map fun j=>Value.int .i64 (f j)).set i (.int .i64 x)=(List.range N).map fun j=>Value.int .i64 (upd f i x j):=by
 apply List.ext_getElem?;intro j;rw [List.getElem?_set];simp only [List.getElem?_map,List.length_map,List.length_range]
 by_cases h:i=j
 ·subst h
  by_cases k:i<N
  ·simp [k,upd]
  ·simp [k]
 ·rw [if_neg h]
  by_cases k:j<N
  ·simp [k,upd,show ¬j=i from fun e=>h e.symm]
  ·simp [k]
theorem zvl (c a x:Int) (f:Nat→Int) (i:Nat):(rowV c a f).setIfInBounds (2+i) (.int .i64 x)=rowV c a (upd f i x):=by
 unfold rowV;rw [List.setIfInBounds_toArray,show 2+i=i+1+1 by omega,List.set_cons_succ,List.set_cons_succ,map_set]
theorem zcA (c a:Int) (f:Nat→Int):(rowV c a f).all (·.oneCell')=true:=by
 unfold rowV;rw [←Array.all_toList];simp [Value.oneCell']
theorem HasV.set0 (h:HasV T w b c a f) (x:Int):HasV T (w.setCell ⟨b,0,none⟩ (.int .i64 x)) b x a f:=by
 have k:=heap_setCell_same w b 0 _ _ (.int .i64 x) h;rw [zrQ] at k;exact k
theorem HasV.set1 (h:HasV T w b c a f) (x:Int):HasV T (w.setCell ⟨b,1,none⟩ (.int .i64 x)) b c x f:=by
 have k:=heap_setCell_same w b 1 _ _ (.int .i64 x) h;rw [zrR] at k;exact k
theorem HasV.set (h:HasV T w b c a f) (i:Nat) (x:Int):HasV T (w.setCell ⟨b,2+i,none⟩ (.int .i64 x)) b c a (upd f i x):=by
 have k:=heap_setCell_same w b (2+i) _ _ (.int .i64 x) h;rw [zvl] at k;exact k
theorem HasV.other (h:HasV T w b c a f) (p:Addr) (v:Value) (hb:b≠p.block):HasV T (w.setCell p v) b c a f:=(heap_setCell_other w p b v hb).trans h
def zeroC:Array Value:=rowV 0 0 (fun _=>0)
@[simp] theorem zvm (w:World):(zeroValue 43).run Tryz.prog w=.ok (.agg zeroC) w:=by kernel_rfl
theorem zcf {Z:Array Value} (w:World) (h:(zeroValue 43).run Tryz.prog w=.ok (.agg Z) w):Z=zeroC:=by
 have k:=h.symm.trans (zvm w)
 simpa using k
theorem zero_V:zeroC=rowV 0 0 (fun _=>0):=rfl
theorem results_tmp_agg {fn:Func} {p u:Tmp} {ty:TypeId} (h:fn.results=#[.tmp u,.cell p ty]) (tmps:Array Value) (w:World) (g:Nat) (t:TypeId) (cs:Array Value) (fr:Nat×Nat) (d:TypeDesc)
  (hp:tmps.getD p undef=.pointer (some ⟨g,0,none⟩)) (hg:w.heap[g]? = some (.cells cs t fr))
  (hu:P.underlying ty=some d) (hd:(match d with|.struct _|.array _ _=>true|_=>false)=true) (hi:(P.info? ty).map (·.size)=some cs.size):
  (results fn tmps).run P w=.ok (.tuple #[tmps.getD u undef,.agg cs]) w:=by
 have hp':tmps[p]?.getD undef=.pointer (some ⟨g,0,none⟩):=by simpa using hp
 simp [results,h,hp',asAddr,run_loadVar_row w g t ty cs fr d hg hu hd hi]
theorem wpQuiet_row {ops:Array Oper} {C:World→Prop} {Q:Act→Prop} {a:Act} {o:Oper} {rest:List Oper} (hw:Region.wanted o (yielded ops a.tmps)=true) (ty:TypeId) (x:Operand) (ho:o.op=.load ty x)
  (g:Nat) (hx:a.eval x=.pointer (some ⟨g,0,none⟩)) (t:TypeId) (cs:Array Value) (fr:Nat×Nat) (d:TypeDesc) (hg:∀w,C w→w.heap[g]? = some (.cells cs t fr))
  (hu:P.underlying ty=some d) (hd:(match d with|.struct _|.array _ _=>true|_=>false)=true) (hi:(P.info? ty).map (·.size)=some cs.size)
  (h:wpQuiet P ops C Q rest (a.put o.dst (.agg cs))):wpQuiet P ops C Q (o::rest) a:=by
 unfold wpQuiet;rw [if_pos hw];refine ⟨.agg cs,fun w hC=>?_,h⟩;unfold Oper.quietAt execOp;simp only [ho,hx,Instr.loadAt,Instr.sureAddr,Sem.run_bind,Sem.run_pure,Result.andThen_ok,run_loadVar_row w g t ty cs fr d (hg w hC) hu hd hi];exact ⟨rfl,rfl⟩
theorem info_V (c a:Int) (f:Nat→Int):(Tryz.prog.info? 43).map (·.size)=some (rowV c a f).size:=by
 rw [rowV_size]
 kernel_rfl
theorem and_511 (n:Int):bits .and .i64 n 511=n%512:=zbt 9 (by decide) n
theorem zbD (n:Int) (w:World):Calls Tryz.prog 193 #[.int .i64 n] w fun e w'=>e=.returned (.int .i64 (n%512))∧w'=w:=by
 have h:=and_511 n;go_enter Tryz.func193,Tryz.ntmps193;go_wp2;go_ret;exact ⟨rfl,rfl⟩
theorem zvn (x:Int) (w:World) (h0:0≤x) (h1:x<512):Calls Tryz.prog 194 #[.int .i64 x] w fun e w'=>e=.returned (.int .i64 (colOf x true))∧w'=w:=by
 have u1:=zhK (x/64);have u2:=zhK (x/8);have u3:=zhK x;have u4:x/64%8=x/64:=by omega
 show Calls Tryz.prog 194 #[.int .i64 x] w fun e w'=>e=.returned (.int .i64 ((x/64*4+x/8%8*2+x%8)/7*73))∧w'=w
 go_enter Tryz.func194,Tryz.ntmps194;go_wp2;go_ret;exact ⟨zat (by omega),rfl⟩
theorem colour_at (c a k:Int) (f:Nat→Int) (w:World) (i:Nat) (hi:k%512=(i:Int)):Calls Tryz.prog 132 #[.agg (rowV c a f),.int .i64 k] w fun e w'=>e=.returned (.int .i64 (colOf (f i%512) (zaV c 7==1)))∧Below w.heap.size w w':=by
 have c0:=(zaN 43 w c a f).c0;have h0:i<512:=by omega
 have ci:=(zaN 43 w c a f).at i h0;have hb:=zds c 7;obtain ⟨x,hx,x0,x1⟩:∃x,f i%512=x∧0≤x∧x<512:=⟨_,rfl,by omega,by omega⟩
 rw [hx];have hq:zaV c 7=0∨zaV c 7=1:=by omega
 rcases hq with h7|h7
 ·rw [h7];show Calls Tryz.prog 132 _ w fun e w'=>e=.returned (.int .i64 x)∧Below w.heap.size w w'
  go_enter Tryz.func132,Tryz.ntmps132;go_wp2_with (first|(go_at_call 193;refine (zbD _ _).mono ?_;rintro e w' ⟨rfl,rfl⟩)|(go_at_call 68;refine (zaZ _ _ _).mono ?_;rintro e w' ⟨rfl,rfl⟩));go_ret;exact ⟨rfl,(Below.refl _ w).alloc (Nat.le_refl _) _⟩
 ·rw [h7];show Calls Tryz.prog 132 _ w fun e w'=>e=.returned (.int .i64 (colOf x true))∧Below w.heap.size w w'
  go_enter Tryz.func132,Tryz.ntmps132;go_wp2_with (first|(go_at_call 193;refine (zbD _ _).mono ?_;rintro e w' ⟨rfl,rfl⟩)|(go_at_call 68;refine (zaZ _ _ _).mono ?_;rintro e w' ⟨rfl,rfl⟩)|(go_at_call 194;refine (zvn _ _ x0 x1).mono ?_;rintro e w' ⟨rfl,rfl⟩));go_ret;exact ⟨rfl,(Below.refl _ w).alloc (Nat.le_refl _) _⟩
theorem lines_any (c a:Int) (f:Nat→Int) (w:World):Calls Tryz.prog 55 #[.agg (rowV c a f)] w fun e w'=>e=.returned (.int .i64 (262+zaV c 2))∧Below w.heap.size w w':=by
 have hb:=zds c 2;have c0:=(zaN 43 w c a f).c0;go_enter Tryz.func55,Tryz.ntmps55;go_wp2_with (first|(go_at_call 68;refine (zaZ _ _ _).mono ?_;rintro e w' ⟨rfl,rfl⟩));go_ret;exact ⟨rfl,(Below.refl _ w).alloc (Nat.le_refl _) _⟩
def zAU (c:Int):Int:=if c%4=0 then 4 else if c%4=1 then 3 else 2
theorem dot_any (c a:Int) (f:Nat→Int) (w:World):Calls Tryz.prog 54 #[.agg (rowV c a f)] w fun e w'=>e=.returned (.int .i64 (zAU c))∧Below w.heap.size w w':=by
 have c0:=(zaN 43 w c a f).c0;have ha:=zxC c;unfold zAU;obtain ⟨q,hq,q0,q1⟩:∃q,c%4=q∧0≤q∧q<4:=⟨_,rfl,by omega,by omega⟩
 rw [hq] at ha ⊢;have hc:q=0∨q=1∨q=2∨q=3:=by omega
 rcases hc with rfl|rfl|rfl|rfl
 all_goals
  go_enter Tryz.func54,Tryz.ntmps54;go_wp2_with fail;go_ret;exact ⟨rfl,(Below.refl _ w).alloc (Nat.le_refl _) _⟩
theorem bit_8 (n:Int):zaV n 8=n%512/256:=by
 rw [zhu n 8 (by decide) (by decide)];show n%65536/256%2=n%512/256;omega
theorem bit_0 (n:Int):zaV n 0=n%2:=by
 rw [zhu n 0 (by decide) (by decide)];show n%65536/1%2=n%2;omega
theorem zjl (n b x:Int) (hx:b%256+256*(n%512/256)=x) (w:World):Calls Tryz.prog 244 #[.int .i64 n,.int .i64 b] w fun e w'=>e=.returned (.int .i64 x)∧Below w.heap.size w w':=by
 have h8:=bit_8 n;go_enter Tryz.func244,Tryz.ntmps244;go_wp2_with (first|(go_at_call 68;refine (zaZ _ _ _).mono ?_;rintro e w' ⟨rfl,rfl⟩)|(go_at_call 118;refine (zcT _ _ _).mono ?_;rintro e w' ⟨rfl,bw⟩));go_ret;exact ⟨zat (by omega),bw⟩
theorem zie (n b x:Int) (hx:n%256+256*(b%2)=x) (w:World):Calls Tryz.prog 245 #[.int .i64 n,.int .i64 b] w fun e w'=>e=.returned (.int .i64 x)∧Below w.heap.size w w':=by
 have h0:=bit_0 b;go_enter Tryz.func245,Tryz.ntmps245;go_wp2_with (first|(go_at_call 68;refine (zaZ _ _ _).mono ?_;rintro e w' ⟨rfl,rfl⟩)|(go_at_call 118;refine (zcT _ _ _).mono ?_;rintro e w' ⟨rfl,bw⟩));go_ret;exact ⟨zat (by omega),bw⟩
theorem write_0 (c a b x:Int) (f:Nat→Int) (i:Nat) (ha:a%512=(i:Int)) (hx:b%256=x) (w:World):Calls Tryz.prog 209 #[.agg (rowV c a f),.int .i64 0,.int .i64 b] w fun e w'=>e=.returned (.agg (rowV x a f))∧Below w.heap.size w w':=by
 have hi:i<512:=by omega
 have c1:=((zaN 43 w c a f).alloc (.cells zeroC 43)).c1
 try have hzz:=zcf w (Tryz.zeroValue43 w)
 go_enter Tryz.func209,Tryz.ntmps209;go_wp2_with fail;obtain ⟨wr,hwr⟩:∃wr,wr=(w.alloc (.cells (rowV c a f) 43)).alloc (.cells zeroC 43):=⟨_,rfl⟩
 rw [←hwr] at c1 ⊢;have V0:=hide (show HasV 43 wr w.heap.size c a f by rw [hwr];exact (zaN 43 w c a f).alloc _);have Z0:=hide (show HasV 43 wr (w.heap.size+1) 0 0 (fun _=>0) by rw [hwr,zero_V];exact heap_alloc2_new _ _ _);have B0:=hide (show Below w.heap.size w wr by rw [hwr];exact ((Below.refl _ w).alloc (Nat.le_refl _) _).alloc (by simp) _);clear hwr;have c0:=V0.out.c0;have ci:=V0.out.at i hi;have z0:=V0.out.frozen 0;have z1:=V0.out.frozen 1;have zi:=V0.out.frozen (2+i);have V1:=hide (V0.out.set0 x);have Z1:=hide (Z0.out.other ⟨w.heap.size,0,none⟩ (.int .i64 x) (by simp));have B1:=hide (B0.out.setCell (p:=⟨w.heap.size,0,none⟩) (Nat.le_refl _) (.int .i64 x));clear V0 Z0 B0
 go_wp2_with (first
  |(go_at_call 69;refine (zam _ _).mono ?_;rintro e w' ⟨rfl,hw⟩;subst w')
  |(go_at_call 193;refine (zbD _ _).mono ?_;rintro e w' ⟨rfl,hw⟩;subst w')
  |(refine wpList_load_row rfl 43 (.tmp 3) rfl w.heap.size rfl 43 _ (0,0) _ V1.out Tryz.underlying43 rfl (info_V _ _ _) ?_)
  |(refine wpList_store_row rfl 43 (.tmp 6) (.tmp 57) rfl (w.heap.size+1) _ rfl rfl 43 _ Z1.out (info_V _ _ _) (by rw [rowV_size,rowV_size]) (zcA _ _ _) ?_)
  |(refine bodyPost_ret (results_cell_row rfl _ _ (w.heap.size+1) 43 _ (0,0) _ rfl (setRow_heap _ _ _ _ _ _ Z1.out) Tryz.underlying43 rfl (info_V _ _ _)) rfl ⟨rfl,below_setRow B1.out (Nat.le_succ _) _⟩))
theorem write_2 (c a b x:Int) (f:Nat→Int) (i:Nat) (ha:a%512=(i:Int)) (hx:b%256+256*((i:Int)%512/256)=x) (w:World):Calls Tryz.prog 209 #[.agg (rowV c a f),.int .i64 2,.int .i64 b] w fun e w'=>e=.returned (.agg (rowV c x f))∧Below w.heap.size w w':=by
 have hi:i<512:=by omega
 have HX:=hide hx;clear hx;have c1:=((zaN 43 w c a f).alloc (.cells zeroC 43)).c1
 try have hzz:=zcf w (Tryz.zeroValue43 w)
 go_enter Tryz.func209,Tryz.ntmps209;go_wp2_with fail;obtain ⟨wr,hwr⟩:∃wr,wr=(w.alloc (.cells (rowV c a f) 43)).alloc (.cells zeroC 43):=⟨_,rfl⟩
 rw [←hwr] at c1 ⊢;have V0:=hide (show HasV 43 wr w.heap.size c a f by rw [hwr];exact (zaN 43 w c a f).alloc _);have Z0:=hide (show HasV 43 wr (w.heap.size+1) 0 0 (fun _=>0) by rw [hwr,zero_V];exact heap_alloc2_new _ _ _);have B0:=hide (show Below w.heap.size w wr by rw [hwr];exact ((Below.refl _ w).alloc (Nat.le_refl _) _).alloc (by simp) _);clear hwr;have c0:=V0.out.c0;have ci:=V0.out.at i hi;have z0:=V0.out.frozen 0;have z1:=V0.out.frozen 1;have zi:=V0.out.frozen (2+i);go_wp2_with (first|(go_at_call 193;refine (zbD _ _).mono ?_;rintro e w' ⟨rfl,hw⟩;subst w'));refine (zjl _ _ x HX.out _).mono ?_;rintro e w1 ⟨rfl,b1⟩;clear c0 c1 ci z0 z1 zi;replace V0:=hide (V0.out.next b1);replace Z0:=hide (Z0.out.next b1);replace B0:=hide (zaz B0.out b1);clear b1;have c0:=V0.out.c0;have c1:=V0.out.c1;have ci:=V0.out.at i hi;have z0:=V0.out.frozen 0;have z1:=V0.out.frozen 1;have zi:=V0.out.frozen (2+i);have V1:=hide (V0.out.set1 x);have Z1:=hide (Z0.out.other ⟨w.heap.size,1,none⟩ (.int .i64 x) (by simp));have B1:=hide (B0.out.setCell (p:=⟨w.heap.size,1,none⟩) (Nat.le_refl _) (.int .i64 x));clear V0 Z0 B0
 go_wp2_with (first
  |(go_at_call 69;refine (zam _ _).mono ?_;rintro e w' ⟨rfl,hw⟩;subst w')
  |(go_at_call 193;refine (zbD _ _).mono ?_;rintro e w' ⟨rfl,hw⟩;subst w')
  |(refine wpList_load_row rfl 43 (.tmp 3) rfl w.heap.size rfl 43 _ (0,0) _ V1.out Tryz.underlying43 rfl (info_V _ _ _) ?_)
  |(refine wpList_store_row rfl 43 (.tmp 6) (.tmp 57) rfl (w.heap.size+1) _ rfl rfl 43 _ Z1.out (info_V _ _ _) (by rw [rowV_size,rowV_size]) (zcA _ _ _) ?_)
  |(refine bodyPost_ret (results_cell_row rfl _ _ (w.heap.size+1) 43 _ (0,0) _ rfl (setRow_heap _ _ _ _ _ _ Z1.out) Tryz.underlying43 rfl (info_V _ _ _)) rfl ⟨rfl,below_setRow B1.out (Nat.le_succ _) _⟩))
theorem write_3 (c a b x:Int) (f:Nat→Int) (i:Nat) (ha:a%512=(i:Int)) (hx:(i:Int)%256+256*(b%2)=x) (w:World):Calls Tryz.prog 209 #[.agg (rowV c a f),.int .i64 3,.int .i64 b] w fun e w'=>e=.returned (.agg (rowV c x f))∧Below w.heap.size w w':=by
 have hi:i<512:=by omega
 have HX:=hide hx;clear hx;have c1:=((zaN 43 w c a f).alloc (.cells zeroC 43)).c1
 try have hzz:=zcf w (Tryz.zeroValue43 w)
 go_enter Tryz.func209,Tryz.ntmps209;go_wp2_with fail;obtain ⟨wr,hwr⟩:∃wr,wr=(w.alloc (.cells (rowV c a f) 43)).alloc (.cells zeroC 43):=⟨_,rfl⟩
 rw [←hwr] at c1 ⊢;have V0:=hide (show HasV 43 wr w.heap.size c a f by rw [hwr];exact (zaN 43 w c a f).alloc _);have Z0:=hide (show HasV 43 wr (w.heap.size+1) 0 0 (fun _=>0) by rw [hwr,zero_V];exact heap_alloc2_new _ _ _);have B0:=hide (show Below w.heap.size w wr by rw [hwr];exact ((Below.refl _ w).alloc (Nat.le_refl _) _).alloc (by simp) _);clear hwr;have c0:=V0.out.c0;have ci:=V0.out.at i hi;have z0:=V0.out.frozen 0;have z1:=V0.out.frozen 1;have zi:=V0.out.frozen (2+i);go_wp2_with (first|(go_at_call 193;refine (zbD _ _).mono ?_;rintro e w' ⟨rfl,hw⟩;subst w'));refine (zie _ _ x HX.out _).mono ?_;rintro e w1 ⟨rfl,b1⟩;clear c0 c1 ci z0 z1 zi;replace V0:=hide (V0.out.next b1);replace Z0:=hide (Z0.out.next b1);replace B0:=hide (zaz B0.out b1);clear b1;have c0:=V0.out.c0;have c1:=V0.out.c1;have ci:=V0.out.at i hi;have z0:=V0.out.frozen 0;have z1:=V0.out.frozen 1;have zi:=V0.out.frozen (2+i);have V1:=hide (V0.out.set1 x);have Z1:=hide (Z0.out.other ⟨w.heap.size,1,none⟩ (.int .i64 x) (by simp));have B1:=hide (B0.out.setCell (p:=⟨w.heap.size,1,none⟩) (Nat.le_refl _) (.int .i64 x));clear V0 Z0 B0
 go_wp2_with (first
  |(go_at_call 69;refine (zam _ _).mono ?_;rintro e w' ⟨rfl,hw⟩;subst w')
  |(go_at_call 193;refine (zbD _ _).mono ?_;rintro e w' ⟨rfl,hw⟩;subst w')
  |(refine wpList_load_row rfl 43 (.tmp 3) rfl w.heap.size rfl 43 _ (0,0) _ V1.out Tryz.underlying43 rfl (info_V _ _ _) ?_)
  |(refine wpList_store_row rfl 43 (.tmp 6) (.tmp 57) rfl (w.heap.size+1) _ rfl rfl 43 _ Z1.out (info_V _ _ _) (by rw [rowV_size,rowV_size]) (zcA _ _ _) ?_)
  |(refine bodyPost_ret (results_cell_row rfl _ _ (w.heap.size+1) 43 _ (0,0) _ rfl (setRow_heap _ _ _ _ _ _ Z1.out) Tryz.underlying43 rfl (info_V _ _ _)) rfl ⟨rfl,below_setRow B1.out (Nat.le_succ _) _⟩))
theorem write_4 (c a b x:Int) (f:Nat→Int) (i:Nat) (ha:a%512=(i:Int)) (hx:b%256+256*(f i%512/256)=x) (w:World):Calls Tryz.prog 209 #[.agg (rowV c a f),.int .i64 4,.int .i64 b] w fun e w'=>e=.returned (.agg (rowV c (i:Int) (upd f i x)))∧Below w.heap.size w w':=by
 have hi:i<512:=by omega
 have HX:=hide hx;clear hx;have c1:=((zaN 43 w c a f).alloc (.cells zeroC 43)).c1
 try have hzz:=zcf w (Tryz.zeroValue43 w)
 go_enter Tryz.func209,Tryz.ntmps209;go_wp2_with fail;obtain ⟨wr,hwr⟩:∃wr,wr=(w.alloc (.cells (rowV c a f) 43)).alloc (.cells zeroC 43):=⟨_,rfl⟩
 rw [←hwr] at c1 ⊢;have V0:=hide (show HasV 43 wr w.heap.size c a f by rw [hwr];exact (zaN 43 w c a f).alloc _);have Z0:=hide (show HasV 43 wr (w.heap.size+1) 0 0 (fun _=>0) by rw [hwr,zero_V];exact heap_alloc2_new _ _ _);have B0:=hide (show Below w.heap.size w wr by rw [hwr];exact ((Below.refl _ w).alloc (Nat.le_refl _) _).alloc (by simp) _);clear hwr;have c0:=V0.out.c0;have ci:=V0.out.at i hi;have z0:=V0.out.frozen 0;have z1:=V0.out.frozen 1;have zi:=V0.out.frozen (2+i);go_wp2_with (first|(go_at_call 193;refine (zbD _ _).mono ?_;rintro e w' ⟨rfl,hw⟩;subst w'));refine (zjl _ _ x HX.out _).mono ?_;rintro e w1 ⟨rfl,b1⟩;clear c0 c1 ci z0 z1 zi;replace V0:=hide (V0.out.next b1);replace Z0:=hide (Z0.out.next b1);replace B0:=hide (zaz B0.out b1);clear b1;have c0:=V0.out.c0;have c1:=V0.out.c1;have ci:=V0.out.at i hi;have z0:=V0.out.frozen 0;have z1:=V0.out.frozen 1;have zi:=V0.out.frozen (2+i);have d1:=(V0.out.set i x).c1;have V1:=hide ((V0.out.set i x).set1 (i:Int));have Z1:=hide ((Z0.out.other ⟨w.heap.size,2+i,none⟩ (.int .i64 x) (by simp)).other ⟨w.heap.size,1,none⟩ (.int .i64 (i:Int)) (by simp));have B1:=hide ((B0.out.setCell (p:=⟨w.heap.size,2+i,none⟩) (Nat.le_refl _) (.int .i64 x)).setCell (p:=⟨w.heap.size,1,none⟩) (Nat.le_refl _) (.int .i64 (i:Int)));clear V0 Z0 B0
 go_wp2_with (first
  |(go_at_call 69;refine (zam _ _).mono ?_;rintro e w' ⟨rfl,hw⟩;subst w')
  |(go_at_call 193;refine (zbD _ _).mono ?_;rintro e w' ⟨rfl,hw⟩;subst w')
  |(refine wpList_load_row rfl 43 (.tmp 3) rfl w.heap.size rfl 43 _ (0,0) _ V1.out Tryz.underlying43 rfl (info_V _ _ _) ?_)
  |(refine wpList_store_row rfl 43 (.tmp 6) (.tmp 57) rfl (w.heap.size+1) _ rfl rfl 43 _ Z1.out (info_V _ _ _) (by rw [rowV_size,rowV_size]) (zcA _ _ _) ?_)
  |(refine bodyPost_ret (results_cell_row rfl _ _ (w.heap.size+1) 43 _ (0,0) _ rfl (setRow_heap _ _ _ _ _ _ Z1.out) Tryz.underlying43 rfl (info_V _ _ _)) rfl ⟨rfl,below_setRow B1.out (Nat.le_succ _) _⟩))
theorem write_5 (c a b x:Int) (f:Nat→Int) (i:Nat) (ha:a%512=(i:Int)) (n:Int) (hn:((i:Int)+1)%512=n) (hx:f i%256+256*(b%2)=x) (w:World):Calls Tryz.prog 209 #[.agg (rowV c a f),.int .i64 5,.int .i64 b] w fun e w'=>e=.returned (.agg (rowV c n (upd f i x)))∧Below w.heap.size w w':=by
 have hi:i<512:=by omega
 have HX:=hide hx;clear hx;have c1:=((zaN 43 w c a f).alloc (.cells zeroC 43)).c1
 try have hzz:=zcf w (Tryz.zeroValue43 w)
 go_enter Tryz.func209,Tryz.ntmps209;go_wp2_with fail;obtain ⟨wr,hwr⟩:∃wr,wr=(w.alloc (.cells (rowV c a f) 43)).alloc (.cells zeroC 43):=⟨_,rfl⟩
 rw [←hwr] at c1 ⊢;have V0:=hide (show HasV 43 wr w.heap.size c a f by rw [hwr];exact (zaN 43 w c a f).alloc _);have Z0:=hide (show HasV 43 wr (w.heap.size+1) 0 0 (fun _=>0) by rw [hwr,zero_V];exact heap_alloc2_new _ _ _);have B0:=hide (show Below w.heap.size w wr by rw [hwr];exact ((Below.refl _ w).alloc (Nat.le_refl _) _).alloc (by simp) _);clear hwr;have c0:=V0.out.c0;have ci:=V0.out.at i hi;have z0:=V0.out.frozen 0;have z1:=V0.out.frozen 1;have zi:=V0.out.frozen (2+i);go_wp2_with (first|(go_at_call 193;refine (zbD _ _).mono ?_;rintro e w' ⟨rfl,hw⟩;subst w'));refine (zie _ _ x HX.out _).mono ?_;rintro e w1 ⟨rfl,b1⟩;clear c0 c1 ci z0 z1 zi;replace V0:=hide (V0.out.next b1);replace Z0:=hide (Z0.out.next b1);replace B0:=hide (zaz B0.out b1);clear b1;have c0:=V0.out.c0;have c1:=V0.out.c1;have ci:=V0.out.at i hi;have z0:=V0.out.frozen 0;have z1:=V0.out.frozen 1;have zi:=V0.out.frozen (2+i);have d1:=(V0.out.set i x).c1;have V1:=hide ((V0.out.set i x).set1 n);have Z1:=hide ((Z0.out.other ⟨w.heap.size,2+i,none⟩ (.int .i64 x) (by simp)).other ⟨w.heap.size,1,none⟩ (.int .i64 n) (by simp));have B1:=hide ((B0.out.setCell (p:=⟨w.heap.size,2+i,none⟩) (Nat.le_refl _) (.int .i64 x)).setCell (p:=⟨w.heap.size,1,none⟩) (Nat.le_refl _) (.int .i64 n));clear V0 Z0 B0
 go_wp2_with (first
  |(go_at_call 69;refine (zam _ _).mono ?_;rintro e w' ⟨rfl,hw⟩;subst w')
  |(go_at_call 193;refine (zbD _ _).mono ?_;rintro e w' ⟨rfl,hw⟩;subst w')
  |(refine wpList_load_row rfl 43 (.tmp 3) rfl w.heap.size rfl 43 _ (0,0) _ V1.out Tryz.underlying43 rfl (info_V _ _ _) ?_)
  |(refine wpList_store_row rfl 43 (.tmp 6) (.tmp 57) rfl (w.heap.size+1) _ rfl rfl 43 _ Z1.out (info_V _ _ _) (by rw [rowV_size,rowV_size]) (zcA _ _ _) ?_)
  |(refine bodyPost_ret (results_cell_row rfl _ _ (w.heap.size+1) 43 _ (0,0) _ rfl (setRow_heap _ _ _ _ _ _ Z1.out) Tryz.underlying43 rfl (info_V _ _ _)) rfl ⟨rfl,below_setRow B1.out (Nat.le_succ _) _⟩))
theorem write_no (at_:Int) (c a b:Int) (f:Nat→Int) (i:Nat) (ha:a%512=(i:Int)) (h0:¬at_=0) (h2:¬at_=2) (h3:¬at_=3) (h4:¬at_=4) (h5:¬at_=5) (w:World):Calls Tryz.prog 209 #[.agg (rowV c a f),.int .i64 at_,.int .i64 b] w fun e w'=>e=.returned (.agg (rowV c a f))∧Below w.heap.size w w':=by
 have hi:i<512:=by omega
 have c1:=((zaN 43 w c a f).alloc (.cells zeroC 43)).c1
 try have hzz:=zcf w (Tryz.zeroValue43 w)
 go_enter Tryz.func209,Tryz.ntmps209;go_wp2_with fail;obtain ⟨wr,hwr⟩:∃wr,wr=(w.alloc (.cells (rowV c a f) 43)).alloc (.cells zeroC 43):=⟨_,rfl⟩
 rw [←hwr] at c1 ⊢;have V0:=hide (show HasV 43 wr w.heap.size c a f by rw [hwr];exact (zaN 43 w c a f).alloc _);have Z0:=hide (show HasV 43 wr (w.heap.size+1) 0 0 (fun _=>0) by rw [hwr,zero_V];exact heap_alloc2_new _ _ _);have B0:=hide (show Below w.heap.size w wr by rw [hwr];exact ((Below.refl _ w).alloc (Nat.le_refl _) _).alloc (by simp) _);clear hwr;have c0:=V0.out.c0;have ci:=V0.out.at i hi;have z0:=V0.out.frozen 0;have z1:=V0.out.frozen 1;have zi:=V0.out.frozen (2+i);have V1:=V0;have Z1:=Z0;have B1:=B0;clear V0 Z0 B0
 go_wp2_with (first
  |(go_at_call 69;refine (zam _ _).mono ?_;rintro e w' ⟨rfl,hw⟩;subst w')
  |(go_at_call 193;refine (zbD _ _).mono ?_;rintro e w' ⟨rfl,hw⟩;subst w')
  |(refine wpList_load_row rfl 43 (.tmp 3) rfl w.heap.size rfl 43 _ (0,0) _ V1.out Tryz.underlying43 rfl (info_V _ _ _) ?_)
  |(refine wpList_store_row rfl 43 (.tmp 6) (.tmp 57) rfl (w.heap.size+1) _ rfl rfl 43 _ Z1.out (info_V _ _ _) (by rw [rowV_size,rowV_size]) (zcA _ _ _) ?_)
  |(refine bodyPost_ret (results_cell_row rfl _ _ (w.heap.size+1) 43 _ (0,0) _ rfl (setRow_heap _ _ _ _ _ _ Z1.out) Tryz.underlying43 rfl (info_V _ _ _)) rfl ⟨rfl,below_setRow B1.out (Nat.le_succ _) _⟩))
theorem read_no (at_:Int) (c a:Int) (f:Nat→Int) (i:Nat) (ha:a%512=(i:Int)) (h4:¬at_=4) (h5:¬at_=5) (w:World):Calls Tryz.prog 176 #[.agg (rowV c a f),.int .i64 at_] w fun e w'=>e=.returned (.tuple #[.int .i64 255,.agg (rowV c a f)])∧Below w.heap.size w w':=by
 have hi:i<512:=by omega
 have c1:=((zaN 43 w c a f).alloc (.cells zeroC 43)).c1;have ci:=((zaN 43 w c a f).alloc (.cells zeroC 43)).at i hi;have z1:=((zaN 43 w c a f).alloc (.cells zeroC 43)).frozen 1;obtain ⟨wr,hwr⟩:∃wr,wr=(w.alloc (.cells (rowV c a f) 43)).alloc (.cells zeroC 43):=⟨_,rfl⟩
 rw [←hwr] at c1 ci z1;have V0:=hide (show HasV 43 wr w.heap.size c a f by rw [hwr];exact (zaN 43 w c a f).alloc _);have Z0:=hide (show HasV 43 wr (w.heap.size+1) 0 0 (fun _=>0) by rw [hwr,zero_V];exact heap_alloc2_new _ _ _);have B0:=hide (show Below w.heap.size w wr by rw [hwr];exact ((Below.refl _ w).alloc (Nat.le_refl _) _).alloc (by simp) _);have HW:=hide hwr;rw [hwr] at c1 ci z1;clear hwr
 try have hzz:=zcf w (Tryz.zeroValue43 w)
 go_enter Tryz.func176,Tryz.ntmps176;go_wp2_with fail;rw [←HW.out] at c1 ci z1 ⊢;clear HW;go_wp2_with (first|(go_at_call 193;refine (zbD _ _).mono ?_;rintro e w' ⟨rfl,hw⟩;subst w')|(go_at_call 125;refine (zbf _ _).mono ?_;rintro e w' ⟨rfl,hw⟩;subst w'));have V1:=V0;have Z1:=Z0;have B1:=B0;clear V0 Z0 B0 c1 ci z1;haveI:=zax wr;refine zaR _ _ (show _=[_,_]++[_] from rfl) (by kernel_rfl) (by kernel_rfl) (by kernel_rfl) ?_
 repeat (first
  |(refine wpQuiet_row rfl 43 (.tmp 2) rfl w.heap.size rfl 43 _ (0,0) _ (fun w' ⟨x,hx⟩=>by rw [hx];exact (x.block _ V1.out.lt).trans V1.out) Tryz.underlying43 rfl (info_V _ _ _) ?_;simp only [Act.put,List.setIfInBounds_toArray,List.set_cons_succ,List.set_cons_zero])
  |go_big_quiet_step ((first|(go_at_call 68;exact zaF (zaZ _ _ _))|(go_at_call 152;exact zaL (zgB _ _ _ _)))))
 refine wpQuiet_nil ?_;rintro _ ⟨wk,rfl⟩;have Z2:=hide (Z1.out.next wk.below);have B2:=hide (zaz B1.out wk.below)
 go_wp2_with (first
  |(refine wpList_store_row rfl 43 (.tmp 5) (.tmp 36) rfl (w.heap.size+1) _ rfl rfl 43 _ Z2.out (info_V _ _ _) (by rw [rowV_size,rowV_size]) (zcA _ _ _) ?_)
  |(refine bodyPost_ret (results_tmp_agg rfl _ _ (w.heap.size+1) 43 _ (0,0) _ rfl (setRow_heap _ _ _ _ _ _ Z2.out) Tryz.underlying43 rfl (info_V _ _ _)) rfl ⟨rfl,below_setRow B2.out (Nat.le_succ _) _⟩))
theorem read_4 (c a:Int) (f:Nat→Int) (i:Nat) (ha:a%512=(i:Int)) (w:World):Calls Tryz.prog 176 #[.agg (rowV c a f),.int .i64 4] w fun e w'=>e=.returned (.tuple #[.int .i64 (f i%256),.agg (rowV c a f)])∧Below w.heap.size w w':=by
 have hi:i<512:=by omega
 have c1:=((zaN 43 w c a f).alloc (.cells zeroC 43)).c1;have ci:=((zaN 43 w c a f).alloc (.cells zeroC 43)).at i hi;have z1:=((zaN 43 w c a f).alloc (.cells zeroC 43)).frozen 1;obtain ⟨wr,hwr⟩:∃wr,wr=(w.alloc (.cells (rowV c a f) 43)).alloc (.cells zeroC 43):=⟨_,rfl⟩
 rw [←hwr] at c1 ci z1;have V0:=hide (show HasV 43 wr w.heap.size c a f by rw [hwr];exact (zaN 43 w c a f).alloc _);have Z0:=hide (show HasV 43 wr (w.heap.size+1) 0 0 (fun _=>0) by rw [hwr,zero_V];exact heap_alloc2_new _ _ _);have B0:=hide (show Below w.heap.size w wr by rw [hwr];exact ((Below.refl _ w).alloc (Nat.le_refl _) _).alloc (by simp) _);have HW:=hide hwr;rw [hwr] at c1 ci z1;clear hwr
 try have hzz:=zcf w (Tryz.zeroValue43 w)
 go_enter Tryz.func176,Tryz.ntmps176;go_wp2_with fail;rw [←HW.out] at c1 ci z1 ⊢;clear HW;go_wp2_with (first|(go_at_call 193;refine (zbD _ _).mono ?_;rintro e w' ⟨rfl,hw⟩;subst w')|(go_at_call 125;refine (zbf _ _).mono ?_;rintro e w' ⟨rfl,hw⟩;subst w'));have V1:=V0;have Z1:=Z0;have B1:=B0;clear V0 Z0 B0 c1 ci z1;haveI:=zax wr;refine zaR _ _ (show _=[_,_,_]++[_] from rfl) (by kernel_rfl) (by kernel_rfl) (by kernel_rfl) ?_
 repeat (first
  |(refine wpQuiet_row rfl 43 (.tmp 2) rfl w.heap.size rfl 43 _ (0,0) _ (fun w' ⟨x,hx⟩=>by rw [hx];exact (x.block _ V1.out.lt).trans V1.out) Tryz.underlying43 rfl (info_V _ _ _) ?_;simp only [Act.put,List.setIfInBounds_toArray,List.set_cons_succ,List.set_cons_zero])
  |go_big_quiet_step ((first|(go_at_call 68;exact zaF (zaZ _ _ _))|(go_at_call 152;exact zaL (zgB _ _ _ _)))))
 refine wpQuiet_nil ?_;rintro _ ⟨wk,rfl⟩;have Z2:=hide (Z1.out.next wk.below);have B2:=hide (zaz B1.out wk.below)
 go_wp2_with (first
  |(refine wpList_store_row rfl 43 (.tmp 5) (.tmp 24) rfl (w.heap.size+1) _ rfl rfl 43 _ Z2.out (info_V _ _ _) (by rw [rowV_size,rowV_size]) (zcA _ _ _) ?_)
  |(refine bodyPost_ret (results_tmp_agg rfl _ _ (w.heap.size+1) 43 _ (0,0) _ rfl (setRow_heap _ _ _ _ _ _ Z2.out) Tryz.underlying43 rfl (info_V _ _ _)) rfl ⟨rfl,below_setRow B2.out (Nat.le_succ _) _⟩))
theorem zvo (c a:Int) (f:Nat→Int) (i:Nat) (ha:a%512=(i:Int)) (n:Int) (hn:((i:Int)+1)%512=n) (h9:f i%512/256=0) (w:World):Calls Tryz.prog 176 #[.agg (rowV c a f),.int .i64 5] w fun e w'=>e=.returned (.tuple #[.int .i64 254,.agg (rowV c n f)])∧Below w.heap.size w w':=by
 have hi:i<512:=by omega
 have h0:=bit_0 (f i/256%256);have hb:f i/256%256%2=0:=by omega
 have hp:ziM 255 0 false=254+0:=by decide +kernel
 rw [hb] at h0;clear hb;have c1:=((zaN 43 w c a f).alloc (.cells zeroC 43)).c1;have ci:=((zaN 43 w c a f).alloc (.cells zeroC 43)).at i hi;have z1:=((zaN 43 w c a f).alloc (.cells zeroC 43)).frozen 1;obtain ⟨wr,hwr⟩:∃wr,wr=(w.alloc (.cells (rowV c a f) 43)).alloc (.cells zeroC 43):=⟨_,rfl⟩
 rw [←hwr] at c1 ci z1;have V0:=hide (show HasV 43 wr w.heap.size c a f by rw [hwr];exact (zaN 43 w c a f).alloc _);have Z0:=hide (show HasV 43 wr (w.heap.size+1) 0 0 (fun _=>0) by rw [hwr,zero_V];exact heap_alloc2_new _ _ _);have B0:=hide (show Below w.heap.size w wr by rw [hwr];exact ((Below.refl _ w).alloc (Nat.le_refl _) _).alloc (by simp) _);have HW:=hide hwr;rw [hwr] at c1 ci z1;clear hwr
 try have hzz:=zcf w (Tryz.zeroValue43 w)
 go_enter Tryz.func176,Tryz.ntmps176;go_wp2_with fail;rw [←HW.out] at c1 ci z1 ⊢;clear HW;go_wp2_with (first|(go_at_call 193;refine (zbD _ _).mono ?_;rintro e w' ⟨rfl,hw⟩;subst w')|(go_at_call 125;refine (zbf _ _).mono ?_;rintro e w' ⟨rfl,hw⟩;subst w'));obtain ⟨ws,hws⟩:∃ws,ws=wr.setCell ⟨w.heap.size,1,none⟩ (.int .i64 n):=⟨_,rfl⟩
 have V1:=hide (show HasV 43 ws w.heap.size c n f by rw [hws];exact V0.out.set1 _);have Z1:=hide (show HasV 43 ws (w.heap.size+1) 0 0 (fun _=>0) by rw [hws];exact Z0.out.other ⟨w.heap.size,1,none⟩ (.int .i64 n) (by simp));have B1:=hide (show Below w.heap.size w ws by rw [hws];exact B0.out.setCell (p:=⟨w.heap.size,1,none⟩) (Nat.le_refl _) (.int .i64 n));clear V0 Z0 B0 c1 ci z1;rw [←hws];clear hws;haveI:=zax ws;refine zaR _ _ (show _=[_,_,_,_,_,_]++[_] from rfl) (by kernel_rfl) (by kernel_rfl) (by kernel_rfl) ?_
 repeat (first
  |(refine wpQuiet_row rfl 43 (.tmp 2) rfl w.heap.size rfl 43 _ (0,0) _ (fun w' ⟨x,hx⟩=>by rw [hx];exact (x.block _ V1.out.lt).trans V1.out) Tryz.underlying43 rfl (info_V _ _ _) ?_;simp only [Act.put,List.setIfInBounds_toArray,List.set_cons_succ,List.set_cons_zero])
  |go_big_quiet_step ((first|(go_at_call 68;exact zaF (zaZ _ _ _))|(go_at_call 152;exact zaL (zgB _ _ _ _)))))
 refine wpQuiet_nil ?_;rintro _ ⟨wk,rfl⟩;have Z2:=hide (Z1.out.next wk.below);have B2:=hide (zaz B1.out wk.below)
 go_wp2_with (first
  |(refine wpList_store_row rfl 43 (.tmp 5) (.tmp 35) rfl (w.heap.size+1) _ rfl rfl 43 _ Z2.out (info_V _ _ _) (by rw [rowV_size,rowV_size]) (zcA _ _ _) ?_)
  |(refine bodyPost_ret (results_tmp_agg rfl _ _ (w.heap.size+1) 43 _ (0,0) _ rfl (setRow_heap _ _ _ _ _ _ Z2.out) Tryz.underlying43 rfl (info_V _ _ _)) rfl ⟨rfl,below_setRow B2.out (Nat.le_succ _) _⟩))
theorem zvp (c a:Int) (f:Nat→Int) (i:Nat) (ha:a%512=(i:Int)) (n:Int) (hn:((i:Int)+1)%512=n) (h9:f i%512/256=1) (w:World):Calls Tryz.prog 176 #[.agg (rowV c a f),.int .i64 5] w fun e w'=>e=.returned (.tuple #[.int .i64 255,.agg (rowV c n f)])∧Below w.heap.size w w':=by
 have hi:i<512:=by omega
 have h0:=bit_0 (f i/256%256);have hb:f i/256%256%2=1:=by omega
 have hp:ziM 255 0 true=254+1:=by decide +kernel
 rw [hb] at h0;clear hb;have c1:=((zaN 43 w c a f).alloc (.cells zeroC 43)).c1;have ci:=((zaN 43 w c a f).alloc (.cells zeroC 43)).at i hi;have z1:=((zaN 43 w c a f).alloc (.cells zeroC 43)).frozen 1;obtain ⟨wr,hwr⟩:∃wr,wr=(w.alloc (.cells (rowV c a f) 43)).alloc (.cells zeroC 43):=⟨_,rfl⟩
 rw [←hwr] at c1 ci z1;have V0:=hide (show HasV 43 wr w.heap.size c a f by rw [hwr];exact (zaN 43 w c a f).alloc _);have Z0:=hide (show HasV 43 wr (w.heap.size+1) 0 0 (fun _=>0) by rw [hwr,zero_V];exact heap_alloc2_new _ _ _);have B0:=hide (show Below w.heap.size w wr by rw [hwr];exact ((Below.refl _ w).alloc (Nat.le_refl _) _).alloc (by simp) _);have HW:=hide hwr;rw [hwr] at c1 ci z1;clear hwr
 try have hzz:=zcf w (Tryz.zeroValue43 w)
 go_enter Tryz.func176,Tryz.ntmps176;go_wp2_with fail;rw [←HW.out] at c1 ci z1 ⊢;clear HW;go_wp2_with (first|(go_at_call 193;refine (zbD _ _).mono ?_;rintro e w' ⟨rfl,hw⟩;subst w')|(go_at_call 125;refine (zbf _ _).mono ?_;rintro e w' ⟨rfl,hw⟩;subst w'));obtain ⟨ws,hws⟩:∃ws,ws=wr.setCell ⟨w.heap.size,1,none⟩ (.int .i64 n):=⟨_,rfl⟩
 have V1:=hide (show HasV 43 ws w.heap.size c n f by rw [hws];exact V0.out.set1 _);have Z1:=hide (show HasV 43 ws (w.heap.size+1) 0 0 (fun _=>0) by rw [hws];exact Z0.out.other ⟨w.heap.size,1,none⟩ (.int .i64 n) (by simp));have B1:=hide (show Below w.heap.size w ws by rw [hws];exact B0.out.setCell (p:=⟨w.heap.size,1,none⟩) (Nat.le_refl _) (.int .i64 n));clear V0 Z0 B0 c1 ci z1;rw [←hws];clear hws;haveI:=zax ws;refine zaR _ _ (show _=[_,_,_,_,_,_]++[_] from rfl) (by kernel_rfl) (by kernel_rfl) (by kernel_rfl) ?_
 repeat (first
  |(refine wpQuiet_row rfl 43 (.tmp 2) rfl w.heap.size rfl 43 _ (0,0) _ (fun w' ⟨x,hx⟩=>by rw [hx];exact (x.block _ V1.out.lt).trans V1.out) Tryz.underlying43 rfl (info_V _ _ _) ?_;simp only [Act.put,List.setIfInBounds_toArray,List.set_cons_succ,List.set_cons_zero])
  |go_big_quiet_step ((first|(go_at_call 68;exact zaF (zaZ _ _ _))|(go_at_call 152;exact zaL (zgB _ _ _ _)))))
 refine wpQuiet_nil ?_;rintro _ ⟨wk,rfl⟩;have Z2:=hide (Z1.out.next wk.below);have B2:=hide (zaz B1.out wk.below)
 go_wp2_with (first
  |(refine wpList_store_row rfl 43 (.tmp 5) (.tmp 35) rfl (w.heap.size+1) _ rfl rfl 43 _ Z2.out (info_V _ _ _) (by rw [rowV_size,rowV_size]) (zcA _ _ _) ?_)
  |(refine bodyPost_ret (results_tmp_agg rfl _ _ (w.heap.size+1) 43 _ (0,0) _ rfl (setRow_heap _ _ _ _ _ _ Z2.out) Tryz.underlying43 rfl (info_V _ _ _)) rfl ⟨rfl,below_setRow B2.out (Nat.le_succ _) _⟩))
theorem read_5 (c a:Int) (f:Nat→Int) (i:Nat) (ha:a%512=(i:Int)) (n:Int) (hn:((i:Int)+1)%512=n) (w:World):Calls Tryz.prog 176 #[.agg (rowV c a f),.int .i64 5] w fun e w'=>e=.returned (.tuple #[.int .i64 (254+f i%512/256),.agg (rowV c n f)])∧Below w.heap.size w w':=by
 have h:f i%512/256=0∨f i%512/256=1:=by omega
 rcases h with h|h
 ·rw [h];exact zvo c a f i ha n hn h w
 ·rw [h];exact zvp c a f i ha n hn h w
end Go.Proofs.YtdiidjehdginnaaGreatDoor.V12
