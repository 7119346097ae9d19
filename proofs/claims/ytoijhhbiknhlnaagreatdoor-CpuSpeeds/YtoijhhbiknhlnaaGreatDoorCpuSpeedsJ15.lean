/- Texts put together. -/
import Derived.Test.YtoijhhbiknhlnaaGreatDoorRows
import Derived.Laws.StructEq
import Derived.Laws.Rows
import Derived.Laws.Tables
import Derived.Laws.ResultCell
import Derived.Laws.CopyOwn
import Derived.RegionTactic
import Derived.LaidEql
import Derived.WalkMore
import Derived.WalkKit
import Derived.Below
import Derived.OneCell
import Derived.Handy
import Derived.Test.YtoijhhbiknhlnaaGreatDoorCpuSpeedsJ02
import Derived.Test.YtoijhhbiknhlnaaGreatDoorCpuSpeedsJ13
import Derived.Test.YtoijhhbiknhlnaaGreatDoorCpuSpeedsJ14
namespace Go.Proofs.YtoijhhbiknhlnaaGreatDoor.I11
set_option maxRecDepth 20000
theorem zjB (y:Int):IntKind.i64.wrap y%8=y%8:=by rw [IntKind.wrap_i64];omega
theorem zfn (n:Int):(n%((2 ^ 64:Nat):Int)).toNat%2 ^ 3=(n%8).toNat:=by omega
def or3 (a b:Int):Int:=(((a%8).toNat ||| (b%8).toNat:Nat):Int)
def bic3 (a b:Int):Int:=(((a%8).toNat ^^^ ((a%8).toNat &&& (b%8).toNat):Nat):Int)
def and3 (a b:Int):Int:=(((a%8).toNat &&& (b%8).toNat:Nat):Int)
theorem zuX (a b:Int):bits .or .i64 a b%8=or3 a b:=by
 have e:(BitVec.ofInt 64 a ||| BitVec.ofInt 64 b).toNat%2 ^ 3=(a%8).toNat ||| (b%8).toNat:=by
  rw [BitVec.toNat_or,BitVec.toNat_ofInt,BitVec.toNat_ofInt,Nat.or_mod_two_pow,zfn,zfn]
 show IntKind.i64.wrap ((BitVec.ofInt 64 a ||| BitVec.ofInt 64 b).toNat:Nat)%8=_;rw [zjB];unfold or3;rw [←e];omega
theorem zlD (a b:Int):bits .andNot .i64 a b%8=bic3 a b:=by
 have k:BitVec.ofInt 64 a &&& ~~~ BitVec.ofInt 64 b=BitVec.ofInt 64 a ^^^ (BitVec.ofInt 64 a &&& BitVec.ofInt 64 b):=by
  ext i hi
  simp only [BitVec.getElem_and,BitVec.getElem_not,BitVec.getElem_xor];cases (BitVec.ofInt 64 a)[i]<;>cases (BitVec.ofInt 64 b)[i]<;>rfl
 have e:(BitVec.ofInt 64 a &&& ~~~ BitVec.ofInt 64 b).toNat%2 ^ 3=(a%8).toNat ^^^ ((a%8).toNat &&& (b%8).toNat):=by
  rw [k,BitVec.toNat_xor,BitVec.toNat_and,BitVec.toNat_ofInt,BitVec.toNat_ofInt,Nat.xor_mod_two_pow,Nat.and_mod_two_pow,zfn,zfn]
 show IntKind.i64.wrap ((BitVec.ofInt 64 a &&& ~~~ BitVec.ofInt 64 b).toNat:Nat)%8=_;rw [zjB];unfold bic3;rw [←e];omega
theorem zlE (n m:Int) (h0:0≤m) (h1:m<8):bits .and .i64 n m=and3 n m:=by
 obtain ⟨m,rfl⟩:=Int.eq_ofNat_of_zero_le h0;have hm8:((m:Int)%8).toNat=m:=by omega
 have e:(BitVec.ofInt 64 n &&& BitVec.ofInt 64 (m:Int)).toNat=(n%8).toNat &&& m:=by
  rw [BitVec.toNat_and,BitVec.ofInt_natCast,BitVec.toNat_ofNat,Nat.mod_eq_of_lt (by omega:m<2 ^ 64),BitVec.toNat_ofInt];have h2:m=m%2 ^ 3:=(Nat.mod_eq_of_lt (by omega)).symm;rw [←zfn];generalize (n%((2 ^ 64:Nat):Int)).toNat=x
  conv=>rhs;rw [h2,←Nat.and_mod_two_pow]
  exact (Nat.mod_eq_of_lt (Nat.and_lt_two_pow _ (by omega))).symm
 show IntKind.i64.wrap ((BitVec.ofInt 64 n &&& BitVec.ofInt 64 (m:Int)).toNat:Nat)=_;rw [e];have:=Nat.and_lt_two_pow (n%8).toNat (n:=3) (y:=m) (by omega);rw [zco _ (by omega) (by omega)];unfold and3;rw [hm8]
theorem zeF (n:Int):n%8%8=n%8:=by omega
theorem zuY (a b:Int):or3 a b=or3 (a%8) (b%8):=by unfold or3;rw [zeF,zeF]
theorem zrX (a b:Int):bic3 a b=bic3 (a%8) (b%8):=by unfold bic3;rw [zeF,zeF]
theorem zlF (a b:Int):and3 a b=and3 (a%8) (b%8):=by unfold and3;rw [zeF,zeF]
theorem zrY {p:Int→Prop} (h:∀x:Fin 8,p (x.val:Int)) {n:Int} (h0:0≤n) (h1:n<8):p n:=by
 have:=h ⟨n.toNat,by omega⟩;have e:((n.toNat:Nat):Int)=n:=by omega
 simpa only [e] using this
theorem ztU {p:Int→Int→Prop} (h:∀x y:Fin 8,p (x.val:Int) (y.val:Int)) {a b:Int} (a0:0≤a) (a1:a<8) (b0:0≤b) (b1:b<8):p a b:=
 zrY (p:=fun a=>p a b) (fun x=>zrY (p:=fun b=>p (x.val:Int) b) (fun y=>h x y) b0 b1) a0 a1
theorem zcR (n:Int):0≤n%8∧n%8<8:=by omega
theorem ztV (a b:Int):0≤or3 a b∧or3 a b<8:=by
 rw [zuY];exact ztU (p:=fun a b=>0≤or3 a b∧or3 a b<8) (by decide +kernel) (zcR a).1 (zcR a).2 (zcR b).1 (zcR b).2
theorem zuZ (a b:Int):0≤bic3 a b∧bic3 a b<8:=by
 rw [zrX];exact ztU (p:=fun a b=>0≤bic3 a b∧bic3 a b<8) (by decide +kernel) (zcR a).1 (zcR a).2 (zcR b).1 (zcR b).2
def zoP (x:Int):Int:=if 4≤x%8 then 65530 else if 2≤x%8 then 65528 else if 1≤x%8 then 65526 else 0
def zoQ (x:Int):Bool:=decide (1≤x%8)
theorem zva (n:Int):bits .and .i64 n 4=if 4≤n%8 then 4 else 0:=by
 rw [zlE n 4 (by decide) (by decide),zlF];exact zrY (p:=fun x=>and3 x (4%8)=if 4≤x then 4 else 0) (by decide +kernel) (zcR n).1 (zcR n).2
theorem and_2 (n:Int):bits .and .i64 n 2=if 2≤n%4 then 2 else 0:=by
 rw [zlE n 2 (by decide) (by decide),zlF,show n%4=n%8%4 by omega];exact zrY (p:=fun x=>and3 x (2%8)=if 2≤x%4 then 2 else 0) (by decide +kernel) (zcR n).1 (zcR n).2
open Go.RowKit
set_option linter.unusedVariables false
def HasS (w:World) (b:Nat) (m l:Int):Prop:=w.heap[b]? = some (.cells #[.int .i64 m,.int .i64 l] 48 (0,0))
theorem HasS.next {w w':World} {b:Nat} {m l:Int} (h:HasS w b m l) (k:Below w.heap.size w w'):HasS w' b m l:=(k.block b (lt_of_block h)).trans h
theorem zrZ (w:World) (m l:Int):HasS (w.alloc (.cells #[.int .i64 m,.int .i64 l] 48)) w.heap.size m l:=heap_alloc_new _ _
theorem HasS.c0 {w:World} {b:Nat} {m l:Int} (h:HasS w b m l):w.cell? ⟨b,0,none⟩=some (.int .i64 m):=(cell_of_row w b 0 _ _ _ h).trans rfl
theorem HasS.c1 {w:World} {b:Nat} {m l:Int} (h:HasS w b m l):w.cell? ⟨b,1,none⟩=some (.int .i64 l):=(cell_of_row w b 1 _ _ _ h).trans rfl
theorem zkC (m l:Int) (w:World):Calls Tryz.prog 84 #[.int .i64 m,.int .i64 l] w fun e w'=>e=.returned (.agg #[.int .i64 (m%8),.int .i64 (l%8)])∧Below w.heap.size w w':=by
 have e1:=zjg m;have e2:=zjg l;go_enter Tryz.func84,Tryz.ntmps84;go_wp2;go_returns;exact ⟨rfl,(Below.refl _ w).alloc (Nat.le_refl _) _⟩
def ztW (l n:Int) (on:Bool):Int:=if on then or3 l n else bic3 l n
theorem zfo (m l n:Int) (on:Bool) (w:World):Calls Tryz.prog 31 #[.agg #[.int .i64 m,.int .i64 l],.int .i64 n,.bool on] w fun e w'=>
  e=.returned (.agg #[.int .i64 (m%8),.int .i64 (ztW l n on)])∧Below w.heap.size w w':=by
 cases on
 ·show Calls Tryz.prog 31 _ w fun e w'=>e=.returned (.agg #[.int .i64 (m%8),.int .i64 (bic3 l n)])∧Below w.heap.size w w'
  have C:=hide (zkC m (bits .andNot .i64 l n));rw [zlD] at C;generalize bic3 l n=q at *;generalize m%8=r at *;go_enter Tryz.func31,Tryz.ntmps31;go_wp2_with fail;refine (C.out _).mono ?_;rintro e w1 ⟨rfl,b1⟩;have R3:=hide ((b1.block (w.heap.size+1) (by simp)).trans (heap_alloc2_new _ _ _));have B3:=hide (zar (((Below.refl _ w).alloc (Nat.le_refl _) _).alloc (by simp) _) b1);clear b1 C
  go_wp2_with (first
   |(refine wpList_store_row rfl 48 (.tmp 6) (.tmp 21) rfl (w.heap.size+1) _ rfl rfl 48 _ R3.out (by kernel_rfl) rfl (by kernel_rfl) ?_))
  (try simp only [Exit.inBlock,Exit.then])
  refine bodyPost_ret (results_cell_row rfl _ _ (w.heap.size+1) 48 _ (0,0) _ rfl (setRow_heap _ _ _ _ _ _ R3.out) Tryz.underlying48 rfl (by kernel_rfl)) rfl ?_;exact ⟨rfl,below_setRow B3.out (Nat.le_succ _) _⟩
 ·show Calls Tryz.prog 31 _ w fun e w'=>e=.returned (.agg #[.int .i64 (m%8),.int .i64 (or3 l n)])∧Below w.heap.size w w'
  have C:=hide (zkC m (bits .or .i64 l n));rw [zuX] at C;generalize or3 l n=q at *;generalize m%8=r at *;go_enter Tryz.func31,Tryz.ntmps31;go_wp2_with fail;refine (C.out _).mono ?_;rintro e w1 ⟨rfl,b1⟩;have R3:=hide ((b1.block (w.heap.size+1) (by simp)).trans (heap_alloc2_new _ _ _));have B3:=hide (zar (((Below.refl _ w).alloc (Nat.le_refl _) _).alloc (by simp) _) b1);clear b1 C
  go_wp2_with (first
   |(refine wpList_store_row rfl 48 (.tmp 6) (.tmp 14) rfl (w.heap.size+1) _ rfl rfl 48 _ R3.out (by kernel_rfl) rfl (by kernel_rfl) ?_))
  (try simp only [Exit.inBlock,Exit.then])
  refine bodyPost_ret (results_cell_row rfl _ _ (w.heap.size+1) 48 _ (0,0) _ rfl (setRow_heap _ _ _ _ _ _ R3.out) Tryz.underlying48 rfl (by kernel_rfl)) rfl ?_;exact ⟨rfl,below_setRow B3.out (Nat.le_succ _) _⟩
theorem write_2 (m l b:Int) (w:World):Calls Tryz.prog 108 #[.agg #[.int .i64 m,.int .i64 l],.int .i64 2,.int .i64 b] w fun e w'=>
  e=.returned (.agg #[.int .i64 (b%8),.int .i64 (l%8)])∧Below w.heap.size w w':=by
 have C:=hide (zkC b l);generalize b%8=q at *;generalize l%8=r at *;go_enter Tryz.func108,Tryz.ntmps108;go_wp2_with fail;refine (C.out _).mono ?_;rintro e w1 ⟨rfl,b1⟩;have R3:=hide ((b1.block (w.heap.size+1) (by simp)).trans (heap_alloc2_new _ _ _));have B3:=hide (zar (((Below.refl _ w).alloc (Nat.le_refl _) _).alloc (by simp) _) b1);clear b1 C
 go_wp2_with (first
  |(refine wpList_store_row rfl 48 (.tmp 6) (.tmp 13) rfl (w.heap.size+1) _ rfl rfl 48 _ R3.out (by kernel_rfl) rfl (by kernel_rfl) ?_))
 (try simp only [Exit.inBlock,Exit.then])
 refine bodyPost_ret (results_cell_row rfl _ _ (w.heap.size+1) 48 _ (0,0) _ rfl (setRow_heap _ _ _ _ _ _ R3.out) Tryz.underlying48 rfl (by kernel_rfl)) rfl ?_;exact ⟨rfl,below_setRow B3.out (Nat.le_succ _) _⟩
theorem write_3 (m l b:Int) (w:World):Calls Tryz.prog 108 #[.agg #[.int .i64 m,.int .i64 l],.int .i64 3,.int .i64 b] w fun e w'=>
  e=.returned (.agg #[.int .i64 (m%8),.int .i64 (bic3 l 4)])∧Below w.heap.size w w':=by
 have C:=hide (zfo m l 4 false);rw [show ztW l 4 false=bic3 l 4 from rfl] at C;generalize bic3 l 4=q at *;generalize m%8=r at *;go_enter Tryz.func108,Tryz.ntmps108;go_wp2_with fail;refine (C.out _).mono ?_;rintro e w1 ⟨rfl,b1⟩;have R3:=hide ((b1.block (w.heap.size+1) (by simp)).trans (heap_alloc2_new _ _ _));have B3:=hide (zar (((Below.refl _ w).alloc (Nat.le_refl _) _).alloc (by simp) _) b1);clear b1 C
 go_wp2_with (first
  |(refine wpList_store_row rfl 48 (.tmp 6) (.tmp 17) rfl (w.heap.size+1) _ rfl rfl 48 _ R3.out (by kernel_rfl) rfl (by kernel_rfl) ?_))
 (try simp only [Exit.inBlock,Exit.then])
 refine bodyPost_ret (results_cell_row rfl _ _ (w.heap.size+1) 48 _ (0,0) _ rfl (setRow_heap _ _ _ _ _ _ R3.out) Tryz.underlying48 rfl (by kernel_rfl)) rfl ?_;exact ⟨rfl,below_setRow B3.out (Nat.le_succ _) _⟩
theorem write_no (m l a b:Int) (h2:¬a=2) (h3:¬a=3) (w:World):Calls Tryz.prog 108 #[.agg #[.int .i64 m,.int .i64 l],.int .i64 a,.int .i64 b] w fun e w'=>
  e=.returned (.agg #[.int .i64 m,.int .i64 l])∧Below w.heap.size w w':=by
 go_enter Tryz.func108,Tryz.ntmps108;go_wp2;go_returns;exact ⟨rfl,((Below.refl _ w).alloc (Nat.le_refl _) _).alloc (by simp) _⟩
def zcA (m l a:Int):Int:=if a=2 then m%8 else if a=3 then l%8 else 0
theorem read_any (m l a:Int) (w:World):Calls Tryz.prog 131 #[.agg #[.int .i64 m,.int .i64 l],.int .i64 a] w fun e w'=>
  e=.returned (.int .i64 (zcA m l a))∧Below w.heap.size w w':=by
 unfold zcA;have e1:=zjg m;have e2:=zjg l
 by_cases h2:a=2
 ·subst h2;rw [if_pos rfl];go_enter Tryz.func131,Tryz.ntmps131;go_wp2;go_ret;exact ⟨rfl,(Below.refl _ w).alloc (Nat.le_refl _) _⟩
 ·rw [if_neg h2]
  by_cases h3:a=3
  ·subst h3;rw [if_pos rfl];go_enter Tryz.func131,Tryz.ntmps131;go_wp2;go_ret;exact ⟨rfl,(Below.refl _ w).alloc (Nat.le_refl _) _⟩
  ·rw [if_neg h3];go_enter Tryz.func131,Tryz.ntmps131;go_wp2;go_ret;exact ⟨rfl,(Below.refl _ w).alloc (Nat.le_refl _) _⟩
def zeG:Array Value:=#[.int .i64 4,.int .i64 65530,.int .i64 2,.int .i64 65528,.int .i64 1,.int .i64 65526]
def HasVec (w:World):Prop:=∃t fr,w.heap[0]? = some (.cells zeG t fr)
theorem HasVec.pos {w:World} (h:HasVec w):0<w.heap.size:=by
 obtain ⟨t,fr,e⟩:=h;exact lt_of_block e
def zgU (j:Nat):Int:=[(4:Int),2,1].getD j 0
def atAt (j:Nat):Int:=[(65530:Int),65528,65526].getD j 0
theorem zoR (j:Nat) (hj:j<3) (w:World):(Instr.index 102 (.agg zeG) (.int .i64 (j:Int))).run Tryz.prog w=.ok (.agg #[.int .i64 (zgU j),.int .i64 (atAt j)]) w:=by
 rcases j with _|_|_|j
 ·kernel_rfl
 ·kernel_rfl
 ·kernel_rfl
 ·omega
theorem zsa (m l x n:Int) (b:Nat) (w:World) (h0:w.cell? ⟨b,0,none⟩=some (.int .i64 m)) (h1:w.cell? ⟨b,1,none⟩=some (.int .i64 l)) (hx:bits .andNot .i64 l m=x):
  Calls Tryz.prog 34 #[.int .i64 n,.pointer (some ⟨b,0,none⟩)] w fun e w'=>e=.returned (.bool (bits .and .i64 x n != 0))∧w'=w:=by
 go_enter Tryz.func34,Tryz.ntmps34;go_wp2;go_ret;exact ⟨rfl,rfl⟩
theorem zvb (m l p x:Int) (hx:bits .andNot .i64 l m=x) (hp:bits .and .i64 p 4=0) (w:World) (cs:Array Value) (t:TypeId) (fr:Nat×Nat) (hT:w.heap[0]? = some (.cells cs t fr)) (hs:some 6=some cs.size)
  (hi:∀(j:Nat),j<3→∀w:World,(Instr.index 102 (.agg cs) (.int .i64 (j:Int))).run Tryz.prog w=.ok (.agg #[.int .i64 (zgU j),.int .i64 (atAt j)]) w):
  Calls Tryz.prog 20 #[.agg #[.int .i64 m,.int .i64 l],.int .i64 p] w fun e w'=>
   ((∃j,j<3∧bits .and .i64 x (zgU j)≠0∧(∀i,i<j→bits .and .i64 x (zgU i)=0)∧e=.returned (.tuple #[.int .i64 (atAt j),.bool true]))∨((∀i,i<3→bits .and .i64 x (zgU i)=0)∧e=.returned (.tuple #[.int .i64 0,.bool false])))∧Below w.heap.size w w':=by
 have hz:(Tryz.prog.info? 102).map (·.size)=some cs.size:=Eq.trans (by kernel_rfl) hs;have HX:=hide hi;have HT:=hide hT;have HI:=hide hz;have FX:=hide hx;clear hs hi hT hz hx;go_enter Tryz.func20,Tryz.ntmps20;have HU:=hide ((((Below.refl _ w).alloc (Nat.le_refl _) (.cells #[.int .i64 m,.int .i64 l] 48)).block 0 (lt_of_block HT.out)).trans HT.out);go_wp2_with (first|(refine wpList_load_row rfl 102 (.global 0) rfl 0 rfl t cs fr _ HU.out Tryz.underlying102 rfl HI.out ?_));obtain ⟨wa,hwa⟩:∃wa,wa=w.alloc (.cells #[.int .i64 m,.int .i64 l] 48):=⟨_,rfl⟩
 rw [←hwa];have ba:=hide (show Below w.heap.size w wa by rw [hwa];exact (Below.refl _ w).alloc (Nat.le_refl _) _);have ra:=hide (show HasS wa w.heap.size m l by rw [hwa];exact zrZ w m l);clear hwa HU HT;go_loopw [14] (fun si wr=>∃j:Nat,j≤3∧si=.int .i64 (j:Int)∧(∀i,i<j→bits .and .i64 x (zgU i)=0)∧Below wa.heap.size wa wr) (fun si _=>3-(intOf si).toNat)
 case atStart=>exact ⟨0,by omega,rfl,fun i hi=>absurd hi (by omega),Below.refl _ _⟩
 case round=>
  obtain ⟨j,hj,rfl,hne,bel⟩:=hrel;have HN:=hide hne;have BL:=hide bel;clear hne bel
  by_cases h:j<3
  ·have hx:=HX.out j h;obtain ⟨n,hn⟩:∃n,n=zgU j:=⟨_,rfl⟩
   obtain ⟨k,hk⟩:∃k,k=atAt j:=⟨_,rfl⟩
   rw [←hn,←hk] at hx;have HP:=hide hn;have HK:=hide hk;clear hn hk;have BM:=hide (BL.out.alloc BL.out.size (.cells #[.int .i64 n,.int .i64 k] 101));have cf:=hide (zsa m l x n w.heap.size _ ((ra.out.next BM.out).c0) ((ra.out.next BM.out).c1) FX.out)
   by_cases hq:bits .and .i64 x n=0
   ·rw [show (bits .and .i64 x n != 0)=false by rw [hq];rfl] at cf;have HQ:=hide hq;clear hq;go_wp2_with (first|(refine cf.out.mono ?_;rintro e w1 ⟨rfl,rfl⟩));go_roundw
    case rel=>
     refine ⟨j+1,by omega,by go_num,fun i hi=>?_,BM.out⟩
     by_cases hij:i=j
     ·subst hij;rw [←HP.out];exact HQ.out
     ·exact HN.out i (by omega)
    case measure=>simp [intOf];omega
   ·rw [show (bits .and .i64 x n != 0)=true by simp [hq]] at cf;have HQ:=hide hq;clear hq;go_wp2_with (first|(refine cf.out.mono ?_;rintro e w1 ⟨rfl,rfl⟩));go_ret2;refine ⟨.inl ⟨j,h,by rw [←HP.out];exact HQ.out,HN.out,zhF HK.out rfl⟩,zar ba.out BM.out⟩
  ·have hj:j=3:=by omega
   subst hj;go_wp2_with fail;go_ret2;exact ⟨.inr ⟨HN.out,rfl⟩,zar ba.out BL.out⟩
theorem zoS (m l p:Int) (hp:p%8<4) (w:World) (hT:HasVec w):
  Calls Tryz.prog 20 #[.agg #[.int .i64 m,.int .i64 l],.int .i64 p] w fun e w'=>e=.returned (.tuple #[.int .i64 (zoP (bic3 l m)),.bool (zoQ (bic3 l m))])∧Below w.heap.size w w':=by
 obtain ⟨t,fr,hT⟩:=hT;have h4:bits .and .i64 p 4=0:=by rw [zva,if_neg (by omega)]
 refine (zvb m l p _ rfl h4 w zeG t fr hT rfl (fun j hj w=>zoR j hj w)).mono ?_;have hx:=zlD l m;generalize bits .andNot .i64 l m=x at *;rw [←hx];clear hx;have a4:=zva x;have a2:=and_2 x;have a1:=zjf x;rintro e w' ⟨⟨j,hj,hn,hb,rfl⟩|⟨hb,rfl⟩,b⟩
 ·refine ⟨?_,b⟩;rcases j with _|_|_|j
  ·have h:bits .and .i64 x 4≠0:=hn;have h2:4≤x%8:=by rw [a4] at h;split at h<;>first|assumption|exact absurd rfl h
   refine zhF ?_ ?_
   ·unfold zoP;rw [if_pos (by omega)];rfl
   ·unfold zoQ;rw [decide_eq_true (by omega)]
  ·have h:bits .and .i64 x 2≠0:=hn;have k:bits .and .i64 x 4=0:=hb 0 (by decide);have h2:2≤x%4:=by rw [a2] at h;split at h<;>first|assumption|exact absurd rfl h
   have k2:x%8<4:=by rw [a4] at k;split at k<;>omega
   refine zhF ?_ ?_
   ·unfold zoP;rw [if_neg (by omega),if_pos (by omega)];rfl
   ·unfold zoQ;rw [decide_eq_true (by omega)]
  ·have h:bits .and .i64 x 1≠0:=hn;have k:bits .and .i64 x 4=0:=hb 0 (by decide);have g:bits .and .i64 x 2=0:=hb 1 (by decide);have h2:x%2=1:=by rw [a1] at h;omega
   have k2:x%8<4:=by rw [a4] at k;split at k<;>omega
   have g2:x%4<2:=by rw [a2] at g;split at g<;>omega
   refine zhF ?_ ?_
   ·unfold zoP;rw [if_neg (by omega),if_neg (by omega),if_pos (by omega)];rfl
   ·unfold zoQ;rw [decide_eq_true (by omega)]
  ·omega
 ·refine ⟨?_,b⟩;have k:bits .and .i64 x 4=0:=hb 0 (by decide);have g:bits .and .i64 x 2=0:=hb 1 (by decide);have h:bits .and .i64 x 1=0:=hb 2 (by decide);have h2:x%2=0:=by rw [a1] at h;omega
  have k2:x%8<4:=by rw [a4] at k;split at k<;>omega
  have g2:x%4<2:=by rw [a2] at g;split at g<;>omega
  refine zhF ?_ ?_
  ·unfold zoP;rw [if_neg (by omega),if_neg (by omega),if_neg (by omega)]
  ·unfold zoQ;rw [decide_eq_false (by omega)]
theorem zoT (m l p:Int) (hp:4≤p%8) (w:World):
  Calls Tryz.prog 20 #[.agg #[.int .i64 m,.int .i64 l],.int .i64 p] w fun e w'=>e=.returned (.tuple #[.int .i64 0,.bool false])∧Below w.heap.size w w':=by
 have h4:bits .and .i64 p 4=4:=by rw [zva,if_pos hp]
 go_enter Tryz.func20,Tryz.ntmps20;go_wp2;go_ret2;exact ⟨rfl,(Below.refl _ w).alloc (Nat.le_refl _) _⟩
end Go.Proofs.YtoijhhbiknhlnaaGreatDoor.I11
namespace Go.Proofs.YtoijhhbiknhlnaaGreatDoor.L24
set_option maxRecDepth 20000
open B4 C3 G6 I11 M5 P22 R15 T10 W13
open Go.RowKit
set_option linter.unusedVariables false
def tv (r c:Int) (o:Bool) (p:Int):Nat→Value:=fun j=>if j=0 then .int .i64 r else if j=1 then .int .i64 c else if j=2 then .bool o else .int .i64 p
def sv (m l:Int):Nat→Value:=fun j=>if j=0 then .int .i64 m else .int .i64 l
theorem zoU (r c:Int) (o:Bool) (p:Int):rowF (tv r c o p) 4=#[.int .i64 r,.int .i64 c,.bool o,.int .i64 p]:=rfl
theorem zge (m l:Int):rowF (sv m l) 2=#[.int .i64 m,.int .i64 l]:=rfl
theorem zoV (r c:Int) (o:Bool) (p:Int):∀j,j<4→(tv r c o p j).oneCell'=true:=fun j _=>by
 unfold tv;split
 ·rfl
 ·split
  ·rfl
  ·split<;>rfl
theorem zlG (m l:Int):∀j,j<2→(sv m l j).oneCell'=true:=fun j _=>by
 unfold sv;split<;>rfl
def goT (r c:Int) (o:Bool) (p t:Int):Bool:=(o&&okT r c o p)&&decide (1≤t∧t≤1099511627776)
def cT (r c:Int) (o:Bool) (p t:Int):Int:=if goT r c o p t=true then zmO r c ((t+p)/3072) else c
def pT (r c:Int) (o:Bool) (p t:Int):Int:=if goT r c o p t=true then (t+p)%3072 else p
def kT (r c:Int) (o:Bool) (p t:Int):Int:=if goT r c o p t=true then zfQ r c ((t+p)/3072) else 0
theorem zyj (r c:Int) (o:Bool) (p t:Int) (w:World):Calls Tryz.prog 30 #[.agg (rowF (tv r c o p) 4),.int .i64 t] w fun e w'=>e=Ending.returned (.tuple #[.agg (rowF (tv r (cT r c o p t) o (pT r c o p t)) 4),.int .i64 (kT r c o p t)])∧Below w.heap.size w w':=by
 rw [zoU,zoU];unfold cT pT kT
 by_cases h:goT r c o p t=true
 ·rw [if_pos h,if_pos h,if_pos h];unfold goT at h;simp only [Bool.and_eq_true,decide_eq_true_eq] at h;obtain ⟨⟨rfl,h1⟩,h2,h3⟩:=h;exact zyi r c p t h1 h2 h3 w
 ·rw [if_neg h,if_neg h,if_neg h];refine zoO r c o p t ?_ w;cases hv:(o&&okT r c o p)
  ·exact .inl rfl
  ·right
   unfold goT at h;rw [hv] at h;simp at h;omega
def mT (m k:Int):Int:=if 0<k then m%8 else m
def lT (l k:Int):Int:=if 0<k then or3 l 4 else l
def setL (L:List (Nat×(Nat→Value))) (r n:Int) (o:Bool) (p t m l:Int):List (Nat×(Nat→Value)):=((L.set 12 (4,tv r (cT r n o p t) o (pT r n o p t))).set 17 (1,fun _=>Value.int .i64 0)).set 13 (2,sv (mT m (kT r n o p t)) (lT l (kT r n o p t)))
theorem zfp {w:World} {b v c d:Nat} {L:List (Nat×(Nat→Value))} {bs:List Int} {f:Nat→Int} {wr rd st lo bu:Int} (h:HasX w b v c d L bs f wr rd st lo bu) {r n:Int} {o:Bool} {p t m l:Int} (h12:L[12]? = some (4,tv r n o p)) (h13:L[13]? = some (2,sv m l)) (h17:L[17]? = some (1,fun _=>Value.int .i64 t)):
  Calls Tryz.prog 18 #[.pointer (some ⟨b,0,none⟩)] w fun e w'=>e=Ending.returned (.tuple #[])∧HasX w' b v c d (setL L r n o p t m l) bs f wr rd st lo bu∧OnlyE (EX b v) w w':=by
 by_cases hk:0<kT r n o p t
 ·have k:=zjv h h12 h17 h13 (zyj r n o p t) (zoV _ _ _ _) hk (s':=sv (m%8) (or3 l 4)) (fun w=>by rw [zge,zge];exact zfo m l 4 true w) (zlG _ _);have e:setL L r n o p t m l=(((L.set 12 (4,tv r (cT r n o p t) o (pT r n o p t))).set 17 (1,fun _=>Value.int .i64 0)).set 13 (2,sv (m%8) (or3 l 4))):=by
   unfold setL mT lT;rw [if_pos hk,if_pos hk]
  rw [e];exact k
 ·have k:=zoj h h12 h17 (zyj r n o p t) (zoV _ _ _ _) hk;have e:setL L r n o p t m l=((L.set 12 (4,tv r (cT r n o p t) o (pT r n o p t))).set 17 (1,fun _=>Value.int .i64 0)):=by
   unfold setL mT lT;rw [if_neg hk,if_neg hk];exact zhJ (zaA (zaA h13 _ (by decide)) _ (by decide))
  rw [e];exact k
theorem zoW {L:List (Nat×(Nat→Value))} {r n:Int} {o:Bool} {p t m l:Int} (h:L[12]? = some (4,tv r n o p)):(setL L r n o p t m l)[12]? = some (4,tv r (cT r n o p t) o (pT r n o p t)):=zaA (zaA (zcu h _) _ (by decide)) _ (by decide)
theorem zoX {L:List (Nat×(Nat→Value))} {r n:Int} {o:Bool} {p t m l:Int} (h:L[13]? = some (2,sv m l)):(setL L r n o p t m l)[13]? = some (2,sv (mT m (kT r n o p t)) (lT l (kT r n o p t))):=zcu (zaA (zaA h _ (by decide)) _ (by decide)) _
theorem zix {L:List (Nat×(Nat→Value))} {r n:Int} {o:Bool} {p t m l:Int} (i:Nat) (h:i≠12∧i≠13∧i≠17):(setL L r n o p t m l)[i]? = L[i]? :=zaA (zaA (zaA rfl _ (fun e=>h.1 e.symm)) _ (fun e=>h.2.2 e.symm)) _ (fun e=>h.2.1 e.symm)
def zyk (L:List (Nat×(Nat→Value))) (x m l:Int) (may:Bool):List (Nat×(Nat→Value)):=(L.set 3 (1,fun _=>Value.int .i64 x)).set 13 (2,sv (if may=true then m%8 else m) (if may=true then or3 l 2 else l))
theorem zyl {w:World} {b v c d:Nat} {L:List (Nat×(Nat→Value))} {bs:List Int} {f:Nat→Int} {wr rd st lo bu:Int} (h:HasX w b v c d L bs f wr rd st lo bu) {s n x m l:Int} (may:Bool) (h3:L[3]? = some (1,fun _=>Value.int .i64 s)) (h13:L[13]? = some (2,sv m l)) (hx:bits .or .i64 s n=x):
  Calls Tryz.prog 197 #[.pointer (some ⟨b,0,none⟩),.int .i64 n,.bool may] w fun e w'=>e=Ending.returned (.tuple #[])∧HasX w' b v c d (zyk L x m l may) bs f wr rd st lo bu∧OnlyE (EX b v) w w':=by
 unfold zyk;cases may
 ·rw [if_neg (by decide),if_neg (by decide),zhJ (zaA h13 _ (by decide))];exact zuF h h3 hx
 ·rw [if_pos rfl,if_pos rfl];exact zrs h h3 h13 hx (s':=sv (m%8) (or3 l 2)) (fun w=>by rw [zge,zge];exact zfo m l 2 true w) (zlG _ _)
theorem zbB (p k g a:Int) (hk:zaI p=k) (hg:zcJ p=g) (ha:atW p=a):∀w,HasPorts w→Calls Tryz.prog 70 #[.int .i64 p] w fun e w'=>e=Ending.returned (.agg #[.int .i64 k,.int .i64 g,.int .i64 a])∧Below w.heap.size w w':=fun w hp=>by
 have:=zjq p w hp;rw [hk,hg,ha] at this;exact this
def zym (L:List (Nat×(Nat→Value))) (m l:Int):List (Nat×(Nat→Value)):=(L.set 3 (1,fun _=>Value.int .i64 0)).set 13 (2,sv (m%8) (bic3 l 2))
theorem zoY {w:World} {b v c d:Nat} {L:List (Nat×(Nat→Value))} {bs:List Int} {f:Nat→Int} {wr rd st lo bu:Int} (h:HasX w b v c d L bs f wr rd st lo bu) (p g:Int) (hk:zaI p=2) (hg:zcJ p=g) (ha:atW p=0) {s x m l:Int} (h3:L[3]? = some (1,fun _=>Value.int .i64 s)) (h13:L[13]? = some (2,sv m l)) (hx:s%128=x):Calls Tryz.prog 28 #[.pointer (some ⟨b,0,none⟩),.int .i64 p] w fun e w'=>e=Ending.returned (.int .i64 x)∧HasX w' b v c d (zym L m l) bs f wr rd st lo bu∧OnlyE (EX b v) w w':=by
 refine zgs h p g 0 (zbB p 2 g 0 hk hg ha) (R:=fun w'=>HasX w' b v c d (zym L m l) bs f wr rd st lo bu∧OnlyE (EX b v) w w') fun w1 b1=>?_
 refine zon (h.next b1) 2 g 0 rfl fun w2 b2=>?_
 exact (zip ((h.next b1).next b2) h3 h13 hx (s':=sv (m%8) (bic3 l 2)) (fun w=>by rw [zge,zge];exact zfo m l 2 false w) (zlG _ _)).mono fun e w' ⟨e1,x2,o2⟩=>⟨e1,x2,(zaB (zar b1 b2)).trans o2⟩
theorem zsb {w:World} {b v c d:Nat} {L:List (Nat×(Nat→Value))} {bs:List Int} {f:Nat→Int} {wr rd st lo bu:Int} (h:HasX w b v c d L bs f wr rd st lo bu) (p g a i y:Int) (hk:zaI p=5) (hg:zcJ p=g) (ha:atW p=a) (hy:i%256=y) {r n:Int} {o:Bool} {q t m l:Int} (h12:L[12]? = some (4,tv r n o q)) (h13:L[13]? = some (2,sv m l)) (h17:L[17]? = some (1,fun _=>Value.int .i64 t)) {hd:Int} (h16:L[16]? = some (1,fun _=>Value.int .i64 hd)) {u:Nat→Value} (KP:∀w,Calls Tryz.prog 106 #[.agg (rowF (tv r (cT r n o q t) o (pT r n o q t)) 4),.int .i64 a,.int .i64 y] w fun e w'=>e=Ending.returned (.agg (rowF u 4))∧Below w.heap.size w w') (hu:∀j,j<4→(u j).oneCell'=true):Calls Tryz.prog 62 #[.pointer (some ⟨b,0,none⟩),.int .i64 p,.int .i64 i] w fun e w'=>e=Ending.returned (.tuple #[])∧HasX w' b v c d (((setL L r n o q t m l).set 12 (4,u)).set 16 (1,fun _=>Value.int .i64 y)) bs f wr rd st lo bu∧OnlyE (EX b v) w w':=
 zkw h p i g a (zbB p 5 g a hk hg ha) y hy (fun w h=>zfp h h12 h13 h17) (zoW h12) KP hu ((zix 16 (by decide)).trans h16)
theorem zyn {w:World} {b v c d:Nat} {L:List (Nat×(Nat→Value))} {bs:List Int} {f:Nat→Int} {wr rd st lo bu:Int} (h:HasX w b v c d L bs f wr rd st lo bu) (p g a i y:Int) (hk:zaI p=7) (hg:zcJ p=g) (ha:atW p=a) (hy:i%256=y) {r n:Int} {o:Bool} {q t m l:Int} (h12:L[12]? = some (4,tv r n o q)) (h13:L[13]? = some (2,sv m l)) (h17:L[17]? = some (1,fun _=>Value.int .i64 t)) {hd:Int} (h16:L[16]? = some (1,fun _=>Value.int .i64 hd)) {u:Nat→Value} (KP:∀w,Calls Tryz.prog 108 #[.agg (rowF (sv (mT m (kT r n o q t)) (lT l (kT r n o q t))) 2),.int .i64 a,.int .i64 y] w fun e w'=>e=Ending.returned (.agg (rowF u 2))∧Below w.heap.size w w') (hu:∀j,j<2→(u j).oneCell'=true):Calls Tryz.prog 62 #[.pointer (some ⟨b,0,none⟩),.int .i64 p,.int .i64 i] w fun e w'=>e=Ending.returned (.tuple #[])∧HasX w' b v c d (((setL L r n o q t m l).set 13 (2,u)).set 16 (1,fun _=>Value.int .i64 y)) bs f wr rd st lo bu∧OnlyE (EX b v) w w':=
 zox h p i g a (zbB p 7 g a hk hg ha) y hy (fun w h=>zfp h h12 h13 h17) (zoX h13) KP hu ((zix 16 (by decide)).trans h16)
theorem zsc {w:World} {b v c d:Nat} {L:List (Nat×(Nat→Value))} {bs:List Int} {f:Nat→Int} {wr rd st lo bu:Int} (h:HasX w b v c d L bs f wr rd st lo bu) (p g a:Int) (hk:zaI p=5) (hg:zcJ p=g) (ha:atW p=a) {r n:Int} {o:Bool} {q t m l:Int} (h12:L[12]? = some (4,tv r n o q)) (h13:L[13]? = some (2,sv m l)) (h17:L[17]? = some (1,fun _=>Value.int .i64 t)) {hd:Int} (h16:L[16]? = some (1,fun _=>Value.int .i64 hd)) {x u:Int} (hu:bits .and .i64 hd 128=u) (hx:bits .or .i64 u (cT r n o q t)=x):Calls Tryz.prog 28 #[.pointer (some ⟨b,0,none⟩),.int .i64 p] w fun e w'=>e=Ending.returned (.int .i64 x)∧HasX w' b v c d ((setL L r n o q t m l).set 16 (1,fun _=>Value.int .i64 x)) bs f wr rd st lo bu∧OnlyE (EX b v) w w':=by
 refine zmC h p g a (zbB p 5 g a hk hg ha) (R:=fun w'=>HasX w' b v c d ((setL L r n o q t m l).set 16 (1,fun _=>Value.int .i64 x)) bs f wr rd st lo bu∧OnlyE (EX b v) w w') fun w1 b1=>?_
 exact (zjw (h.next b1) 5 g a (fun w h=>zfp h h12 h13 h17) ((zix 16 (by decide)).trans h16) (zoW h12) hu hx (fun w=>by rw [zoU];exact read_any _ _ _ _ w)).mono fun e w' ⟨e1,x2,o2⟩=>⟨e1,x2,(zaB b1).trans o2⟩
theorem zyo {w:World} {b v c d:Nat} {L:List (Nat×(Nat→Value))} {bs:List Int} {f:Nat→Int} {wr rd st lo bu:Int} (h:HasX w b v c d L bs f wr rd st lo bu) (p g a:Int) (hk:zaI p=7) (hg:zcJ p=g) (ha:atW p=a) (h23:a=2∨a=3) {r n:Int} {o:Bool} {q t m l:Int} (h12:L[12]? = some (4,tv r n o q)) (h13:L[13]? = some (2,sv m l)) (h17:L[17]? = some (1,fun _=>Value.int .i64 t)) {hd:Int} (h16:L[16]? = some (1,fun _=>Value.int .i64 hd)) {x u:Int} (hu:bits .and .i64 hd 248=u) (hx:bits .or .i64 u (zcA (mT m (kT r n o q t)) (lT l (kT r n o q t)) a)=x):Calls Tryz.prog 28 #[.pointer (some ⟨b,0,none⟩),.int .i64 p] w fun e w'=>e=Ending.returned (.int .i64 x)∧HasX w' b v c d ((setL L r n o q t m l).set 16 (1,fun _=>Value.int .i64 x)) bs f wr rd st lo bu∧OnlyE (EX b v) w w':=by
 refine zlu h p g a (zbB p 7 g a hk hg ha) (R:=fun w'=>HasX w' b v c d ((setL L r n o q t m l).set 16 (1,fun _=>Value.int .i64 x)) bs f wr rd st lo bu∧OnlyE (EX b v) w w') fun w1 b1=>?_
 exact (zmz (h.next b1) 7 g a h23 (fun w h=>zfp h h12 h13 h17) ((zix 16 (by decide)).trans h16) (zoX h13) hu hx (fun w=>by rw [zge];exact I11.read_any _ _ _ w)).mono fun e w' ⟨e1,x2,o2⟩=>⟨e1,x2,(zaB b1).trans o2⟩
end Go.Proofs.YtoijhhbiknhlnaaGreatDoor.L24
