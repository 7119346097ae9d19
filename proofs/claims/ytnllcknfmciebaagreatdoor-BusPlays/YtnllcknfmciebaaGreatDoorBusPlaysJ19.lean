/- Texts without a word of the program, one behind the other. -/
import Derived.Test.YtnllcknfmciebaaGreatDoorRows
import Derived.Laws.StructEq
import Derived.Laws.Rows
import Derived.Laws.Tables
import Derived.Laws.ResultCell
import Derived.Laws.CopyOwn
import Derived.RegionTactic
import Derived.LaidEql
import Derived.WalkMore
import Derived.WalkKit
import Derived.Below
import Derived.OneCell
import Derived.Handy
import Derived.Test.YtnllcknfmciebaaGreatDoorBusPlaysJ03
namespace Go.Proofs.YtnllcknfmciebaaGreatDoor.I11
set_option maxRecDepth 20000
theorem wrap_mod8 (y:Int):IntKind.i64.wrap y%8=y%8:=by rw [IntKind.wrap_i64];omega
theorem low_mod8 (n:Int):(n%((2 ^ 64:Nat):Int)).toNat%2 ^ 3=(n%8).toNat:=by omega
def or3 (a b:Int):Int:=(((a%8).toNat ||| (b%8).toNat:Nat):Int)
def bic3 (a b:Int):Int:=(((a%8).toNat ^^^ ((a%8).toNat &&& (b%8).toNat):Nat):Int)
theorem or_mod8 (a b:Int):bits .or .i64 a b%8=or3 a b:=by
 have e:(BitVec.ofInt 64 a ||| BitVec.ofInt 64 b).toNat%2 ^ 3=(a%8).toNat ||| (b%8).toNat:=by
  rw [BitVec.toNat_or,BitVec.toNat_ofInt,BitVec.toNat_ofInt,Nat.or_mod_two_pow,low_mod8,low_mod8]
 show IntKind.i64.wrap ((BitVec.ofInt 64 a ||| BitVec.ofInt 64 b).toNat:Nat)%8=_
 rw [wrap_mod8]
 unfold or3
 rw [←e]
 omega
theorem bic_mod8 (a b:Int):bits .andNot .i64 a b%8=bic3 a b:=by
 have k:BitVec.ofInt 64 a &&& ~~~ BitVec.ofInt 64 b=BitVec.ofInt 64 a ^^^ (BitVec.ofInt 64 a &&& BitVec.ofInt 64 b):=by
  ext i hi
  simp only [BitVec.getElem_and,BitVec.getElem_not,BitVec.getElem_xor]
  cases (BitVec.ofInt 64 a)[i]<;>cases (BitVec.ofInt 64 b)[i]<;>rfl
 have e:(BitVec.ofInt 64 a &&& ~~~ BitVec.ofInt 64 b).toNat%2 ^ 3=(a%8).toNat ^^^ ((a%8).toNat &&& (b%8).toNat):=by
  rw [k,BitVec.toNat_xor,BitVec.toNat_and,BitVec.toNat_ofInt,BitVec.toNat_ofInt,Nat.xor_mod_two_pow,Nat.and_mod_two_pow,low_mod8,low_mod8]
 show IntKind.i64.wrap ((BitVec.ofInt 64 a &&& ~~~ BitVec.ofInt 64 b).toNat:Nat)%8=_
 rw [wrap_mod8]
 unfold bic3
 rw [←e]
 omega
theorem mod_mod8 (n:Int):n%8%8=n%8:=by omega
theorem or3_mod (a b:Int):or3 a b=or3 (a%8) (b%8):=by unfold or3;rw [mod_mod8,mod_mod8]
theorem bic3_mod (a b:Int):bic3 a b=bic3 (a%8) (b%8):=by unfold bic3;rw [mod_mod8,mod_mod8]
theorem all_8 {p:Int→Prop} (h:∀x:Fin 8,p (x.val:Int)) {n:Int} (h0:0≤n) (h1:n<8):p n:=by
 have:=h ⟨n.toNat,by omega⟩
 have e:((n.toNat:Nat):Int)=n:=by omega
 simpa only [e] using this
theorem all_88 {p:Int→Int→Prop} (h:∀x y:Fin 8,p (x.val:Int) (y.val:Int)) {a b:Int} (a0:0≤a) (a1:a<8) (b0:0≤b) (b1:b<8):p a b:=
 all_8 (p:=fun a=>p a b) (fun x=>all_8 (p:=fun b=>p (x.val:Int) b) (fun y=>h x y) b0 b1) a0 a1
theorem mod8_in (n:Int):0≤n%8∧n%8<8:=by omega
theorem or3_in (a b:Int):0≤or3 a b∧or3 a b<8:=by
 rw [or3_mod]
 exact all_88 (p:=fun a b=>0≤or3 a b∧or3 a b<8) (by decide +kernel) (mod8_in a).1 (mod8_in a).2 (mod8_in b).1 (mod8_in b).2
theorem bic3_in (a b:Int):0≤bic3 a b∧bic3 a b<8:=by
 rw [bic3_mod]
 exact all_88 (p:=fun a b=>0≤bic3 a b∧bic3 a b<8) (by decide +kernel) (mod8_in a).1 (mod8_in a).2 (mod8_in b).1 (mod8_in b).2
end Go.Proofs.YtnllcknfmciebaaGreatDoor.I11
namespace Go.Proofs.YtnllcknfmciebaaGreatDoor.I11
set_option maxRecDepth 20000
open Go.RowKit
set_option linter.unusedVariables false
theorem cut_any (m l:Int) (w:World):Calls Tryz.prog 99 #[.int .i64 m,.int .i64 l] w fun e w'=>e=.returned (.agg #[.int .i64 (m%8),.int .i64 (l%8)])∧Below w.heap.size w w':=by
 have e1:=and_7 m
 have e2:=and_7 l
 go_enter Tryz.func99,Tryz.ntmps99
 go_wp2
 go_returns
 exact ⟨rfl,(Below.refl _ w).alloc (Nat.le_refl _) _⟩
def liftOf (l n:Int) (on:Bool):Int:=if on then or3 l n else bic3 l n
theorem raise_any (m l n:Int) (on:Bool) (w:World):Calls Tryz.prog 59 #[.agg #[.int .i64 m,.int .i64 l],.int .i64 n,.bool on] w fun e w'=>
  e=.returned (.agg #[.int .i64 (m%8),.int .i64 (liftOf l n on)])∧Below w.heap.size w w':=by
 cases on
 ·show Calls Tryz.prog 59 _ w fun e w'=>e=.returned (.agg #[.int .i64 (m%8),.int .i64 (bic3 l n)])∧Below w.heap.size w w'
  have C:=hide (cut_any m (bits .andNot .i64 l n))
  rw [bic_mod8] at C
  generalize bic3 l n=q at *
  generalize m%8=r at *
  go_enter Tryz.func59,Tryz.ntmps59
  go_wp2_with fail
  refine (C.out _).mono ?_
  rintro e w1 ⟨rfl,b1⟩
  have R3:=hide ((b1.block (w.heap.size+1) (by simp)).trans (heap_alloc2_new _ _ _))
  have B3:=hide (bnext (((Below.refl _ w).alloc (Nat.le_refl _) _).alloc (by simp) _) b1)
  clear b1 C
  go_wp2_with (first
   |(refine wpList_store_row rfl 57 (.tmp 6) (.tmp 21) rfl (w.heap.size+1) _ rfl rfl 57 _ R3.out (by kernel_rfl) rfl (by kernel_rfl) ?_))
  (try simp only [Exit.inBlock,Exit.then])
  refine bodyPost_ret (results_cell_row rfl _ _ (w.heap.size+1) 57 _ (0,0) _ rfl (setRow_heap _ _ _ _ _ _ R3.out) Tryz.underlying57 rfl (by kernel_rfl)) rfl ?_
  exact ⟨rfl,below_setRow B3.out (Nat.le_succ _) _⟩
 ·show Calls Tryz.prog 59 _ w fun e w'=>e=.returned (.agg #[.int .i64 (m%8),.int .i64 (or3 l n)])∧Below w.heap.size w w'
  have C:=hide (cut_any m (bits .or .i64 l n))
  rw [or_mod8] at C
  generalize or3 l n=q at *
  generalize m%8=r at *
  go_enter Tryz.func59,Tryz.ntmps59
  go_wp2_with fail
  refine (C.out _).mono ?_
  rintro e w1 ⟨rfl,b1⟩
  have R3:=hide ((b1.block (w.heap.size+1) (by simp)).trans (heap_alloc2_new _ _ _))
  have B3:=hide (bnext (((Below.refl _ w).alloc (Nat.le_refl _) _).alloc (by simp) _) b1)
  clear b1 C
  go_wp2_with (first
   |(refine wpList_store_row rfl 57 (.tmp 6) (.tmp 14) rfl (w.heap.size+1) _ rfl rfl 57 _ R3.out (by kernel_rfl) rfl (by kernel_rfl) ?_))
  (try simp only [Exit.inBlock,Exit.then])
  refine bodyPost_ret (results_cell_row rfl _ _ (w.heap.size+1) 57 _ (0,0) _ rfl (setRow_heap _ _ _ _ _ _ R3.out) Tryz.underlying57 rfl (by kernel_rfl)) rfl ?_
  exact ⟨rfl,below_setRow B3.out (Nat.le_succ _) _⟩
theorem write_2 (m l b:Int) (w:World):Calls Tryz.prog 47 #[.agg #[.int .i64 m,.int .i64 l],.int .i64 2,.int .i64 b] w fun e w'=>
  e=.returned (.agg #[.int .i64 (b%8),.int .i64 (l%8)])∧Below w.heap.size w w':=by
 have C:=hide (cut_any b l)
 generalize b%8=q at *
 generalize l%8=r at *
 go_enter Tryz.func47,Tryz.ntmps47
 go_wp2_with fail
 refine (C.out _).mono ?_
 rintro e w1 ⟨rfl,b1⟩
 have R3:=hide ((b1.block (w.heap.size+1) (by simp)).trans (heap_alloc2_new _ _ _))
 have B3:=hide (bnext (((Below.refl _ w).alloc (Nat.le_refl _) _).alloc (by simp) _) b1)
 clear b1 C
 go_wp2_with (first
  |(refine wpList_store_row rfl 57 (.tmp 6) (.tmp 13) rfl (w.heap.size+1) _ rfl rfl 57 _ R3.out (by kernel_rfl) rfl (by kernel_rfl) ?_))
 (try simp only [Exit.inBlock,Exit.then])
 refine bodyPost_ret (results_cell_row rfl _ _ (w.heap.size+1) 57 _ (0,0) _ rfl (setRow_heap _ _ _ _ _ _ R3.out) Tryz.underlying57 rfl (by kernel_rfl)) rfl ?_
 exact ⟨rfl,below_setRow B3.out (Nat.le_succ _) _⟩
theorem write_3 (m l b:Int) (w:World):Calls Tryz.prog 47 #[.agg #[.int .i64 m,.int .i64 l],.int .i64 3,.int .i64 b] w fun e w'=>
  e=.returned (.agg #[.int .i64 (m%8),.int .i64 (bic3 l 4)])∧Below w.heap.size w w':=by
 have C:=hide (raise_any m l 4 false)
 rw [show liftOf l 4 false=bic3 l 4 from rfl] at C
 generalize bic3 l 4=q at *
 generalize m%8=r at *
 go_enter Tryz.func47,Tryz.ntmps47
 go_wp2_with fail
 refine (C.out _).mono ?_
 rintro e w1 ⟨rfl,b1⟩
 have R3:=hide ((b1.block (w.heap.size+1) (by simp)).trans (heap_alloc2_new _ _ _))
 have B3:=hide (bnext (((Below.refl _ w).alloc (Nat.le_refl _) _).alloc (by simp) _) b1)
 clear b1 C
 go_wp2_with (first
  |(refine wpList_store_row rfl 57 (.tmp 6) (.tmp 17) rfl (w.heap.size+1) _ rfl rfl 57 _ R3.out (by kernel_rfl) rfl (by kernel_rfl) ?_))
 (try simp only [Exit.inBlock,Exit.then])
 refine bodyPost_ret (results_cell_row rfl _ _ (w.heap.size+1) 57 _ (0,0) _ rfl (setRow_heap _ _ _ _ _ _ R3.out) Tryz.underlying57 rfl (by kernel_rfl)) rfl ?_
 exact ⟨rfl,below_setRow B3.out (Nat.le_succ _) _⟩
theorem write_no (m l a b:Int) (h2:¬a=2) (h3:¬a=3) (w:World):Calls Tryz.prog 47 #[.agg #[.int .i64 m,.int .i64 l],.int .i64 a,.int .i64 b] w fun e w'=>
  e=.returned (.agg #[.int .i64 m,.int .i64 l])∧Below w.heap.size w w':=by
 go_enter Tryz.func47,Tryz.ntmps47
 go_wp2
 go_returns
 exact ⟨rfl,((Below.refl _ w).alloc (Nat.le_refl _) _).alloc (by simp) _⟩
def readOf (m l a:Int):Int:=if a=2 then m%8 else if a=3 then l%8 else 0
theorem read_any (m l a:Int) (w:World):Calls Tryz.prog 82 #[.agg #[.int .i64 m,.int .i64 l],.int .i64 a] w fun e w'=>
  e=.returned (.int .i64 (readOf m l a))∧Below w.heap.size w w':=by
 unfold readOf
 have e1:=and_7 m
 have e2:=and_7 l
 by_cases h2:a=2
 ·subst h2
  rw [if_pos rfl]
  go_enter Tryz.func82,Tryz.ntmps82
  go_wp2
  go_ret
  exact ⟨rfl,(Below.refl _ w).alloc (Nat.le_refl _) _⟩
 ·rw [if_neg h2]
  by_cases h3:a=3
  ·subst h3
   rw [if_pos rfl]
   go_enter Tryz.func82,Tryz.ntmps82
   go_wp2
   go_ret
   exact ⟨rfl,(Below.refl _ w).alloc (Nat.le_refl _) _⟩
  ·rw [if_neg h3]
   go_enter Tryz.func82,Tryz.ntmps82
   go_wp2
   go_ret
   exact ⟨rfl,(Below.refl _ w).alloc (Nat.le_refl _) _⟩
end Go.Proofs.YtnllcknfmciebaaGreatDoor.I11
namespace Go.Proofs.YtnllcknfmciebaaGreatDoor.I11
set_option maxRecDepth 20000
open Go.RowKit
set_option linter.unusedVariables false
end Go.Proofs.YtnllcknfmciebaaGreatDoor.I11
namespace Go.Proofs.YtnllcknfmciebaaGreatDoor.I11
set_option maxRecDepth 20000
open Go.RowKit
set_option linter.unusedVariables false
theorem bit_low (n:Int):bitOf n 0=bitOf (n%8) 0∧bitOf n 1=bitOf (n%8) 1∧bitOf n 2=bitOf (n%8) 2:=by
 refine ⟨?_,?_,?_⟩
 ·rw [bitOf_in n 0 (by decide) (by decide),bitOf_in (n%8) 0 (by decide) (by decide)]
  show n%65536/1%2=n%8%65536/1%2
  omega
 ·rw [bitOf_in n 1 (by decide) (by decide),bitOf_in (n%8) 1 (by decide) (by decide)]
  show n%65536/2%2=n%8%65536/2%2
  omega
 ·rw [bitOf_in n 2 (by decide) (by decide),bitOf_in (n%8) 2 (by decide) (by decide)]
  show n%65536/4%2=n%8%65536/4%2
  omega
theorem put_clock (l:Int):putOf (l%8) 2 false=bic3 l 4:=by
 rw [bic3_mod]
 exact all_8 (p:=fun x=>putOf x 2 false=bic3 x (4%8)) (by decide +kernel) (mod8_in l).1 (mod8_in l).2
def liftTo (l n:Int) (on:Bool):Nat→Int
 |0=>l%8
 |k+1=>if bitOf n (k:Int)=1 then putOf (liftTo l n on k) (k:Int) on else liftTo l n on k
theorem lift_both (l n:Int) (on:Bool):liftTo l n on 3=liftOf l n on:=by
 have h:liftTo l n on 3=liftTo (l%8) (n%8) on 3:=by
  obtain ⟨h0,h1,h2⟩:=bit_low n
  have k0:bitOf n ((0:Nat):Int)=bitOf (n%8) ((0:Nat):Int):=h0
  have k1:bitOf n ((1:Nat):Int)=bitOf (n%8) ((1:Nat):Int):=h1
  have k2:bitOf n ((2:Nat):Int)=bitOf (n%8) ((2:Nat):Int):=h2
  simp only [liftTo,k0,k1,k2,mod_mod8]
 have k:liftOf l n on=liftOf (l%8) (n%8) on:=by
  unfold liftOf
  cases on
  ·exact bic3_mod l n
  ·exact or3_mod l n
 rw [h,k]
 exact all_88 (p:=fun l n=>liftTo l n on 3=liftOf l n on) (by cases on<;>decide +kernel) (mod8_in l).1 (mod8_in l).2 (mod8_in n).1 (mod8_in n).2
theorem three_any (n:Int) (w:World):Calls Tryz.prog 87 #[.int .i64 n] w fun e w'=>e=.returned (.int .i64 (n%8))∧w'=w:=by
 go_enter Tryz.func87,Tryz.ntmps87
 go_wp2_with (go_at_call 84;refine (mod_any _ _ _ (by decide) (by decide)).mono ?_;rintro e w' ⟨rfl,rfl⟩)
 go_ret
 exact ⟨rfl,rfl⟩
theorem rread_any (m l a:Int) (w:World):Calls Tryz.prog 38 #[.int .i64 m,.int .i64 l,.int .i64 a] w fun e w'=>e=.returned (.int .i64 (readOf m l a))∧w'=w:=by
 unfold readOf
 by_cases h2:a=2
 ·subst h2
  rw [if_pos rfl]
  go_enter Tryz.func38,Tryz.ntmps38
  go_wp2_with (first|(go_at_call 87;refine (three_any _ _).mono ?_;rintro e w' ⟨rfl,rfl⟩))
  go_ret
  exact ⟨rfl,rfl⟩
 ·rw [if_neg h2]
  by_cases h3:a=3
  ·subst h3
   rw [if_pos rfl]
   go_enter Tryz.func38,Tryz.ntmps38
   go_wp2_with (first|(go_at_call 87;refine (three_any _ _).mono ?_;rintro e w' ⟨rfl,rfl⟩))
   go_ret
   exact ⟨rfl,rfl⟩
  ·rw [if_neg h3]
   go_enter Tryz.func38,Tryz.ntmps38
   go_wp2
   go_ret
   exact ⟨rfl,rfl⟩
theorem rwrite_2 (m l b:Int) (w:World):Calls Tryz.prog 56 #[.int .i64 m,.int .i64 l,.int .i64 2,.int .i64 b] w fun e w'=>e=.returned (.tuple #[.int .i64 (b%8),.int .i64 (l%8)])∧w'=w:=by
 go_enter Tryz.func56,Tryz.ntmps56
 go_wp2_with (first|(go_at_call 87;refine (three_any _ _).mono ?_;rintro e w' ⟨rfl,rfl⟩))
 go_ret2
 exact ⟨rfl,rfl⟩
theorem rwrite_3 (m l b:Int) (w:World):Calls Tryz.prog 56 #[.int .i64 m,.int .i64 l,.int .i64 3,.int .i64 b] w fun e w'=>e=.returned (.tuple #[.int .i64 (m%8),.int .i64 (bic3 l 4)])∧w'=w:=by
 have CP:=hide (fun w=>rput_any (l%8) 2 false w)
 rw [put_clock] at CP
 go_enter Tryz.func56,Tryz.ntmps56
 go_wp2_with (first|(go_at_call 87;refine (three_any _ _).mono ?_;rintro e w' ⟨rfl,rfl⟩)|(go_at_call 107;refine (CP.out _).mono ?_;rintro e w' ⟨rfl,rfl⟩))
 go_ret2
 exact ⟨rfl,rfl⟩
theorem rwrite_no (m l a b:Int) (h2:¬a=2) (h3:¬a=3) (w:World):Calls Tryz.prog 56 #[.int .i64 m,.int .i64 l,.int .i64 a,.int .i64 b] w fun e w'=>e=.returned (.tuple #[.int .i64 m,.int .i64 l])∧w'=w:=by
 go_enter Tryz.func56,Tryz.ntmps56
 go_wp2
 go_ret2
 exact ⟨rfl,rfl⟩
theorem rraise_any (m l n:Int) (on:Bool) (w:World):Calls Tryz.prog 109 #[.int .i64 m,.int .i64 l,.int .i64 n,.bool on] w fun e w'=>e=.returned (.tuple #[.int .i64 (m%8),.int .i64 (liftOf l n on)])∧w'=w:=by
 rw [←lift_both]
 have T0:l%8=liftTo l n on 0:=rfl
 go_enter Tryz.func109,Tryz.ntmps109
 go_wp2_with (first|(go_at_call 87;refine (three_any _ _).mono ?_;rintro e w' ⟨rfl,rfl⟩))
 go_loop [10,11] (fun o i=>∃k:Nat,k≤3∧i=.int .i64 (k:Int)∧o=.int .i64 (liftTo l n on k)) (fun _ i=>3-(intOf i).toNat)
 case atStart=>exact ⟨0,Nat.zero_le _,rfl,rfl⟩
 case round=>
  obtain ⟨k,hk,rfl,rfl⟩:=hrel
  by_cases hlt:k<3
  ·by_cases hb:bitOf n (k:Int)=1
   ·have HS:=hide (show liftTo l n on (k+1)=putOf (liftTo l n on k) (k:Int) on from if_pos hb)
    clear T0
    generalize liftTo l n on k=q at *
    go_wp2_with (first|(go_at_call 106;refine (rbit_any _ _ _).mono ?_;rintro e w' ⟨rfl,rfl⟩)|(go_at_call 107;refine (rput_any _ _ _ _).mono ?_;rintro e w' ⟨rfl,rfl⟩))
    go_round
    case rel=>exact ⟨k+1,by omega,by go_num,by rw [HS.out]⟩
    case measure=>simp [intOf];omega
   ·have HS:=hide (show liftTo l n on (k+1)=liftTo l n on k from if_neg hb)
    clear T0
    generalize liftTo l n on k=q at *
    go_wp2_with (first|(go_at_call 106;refine (rbit_any _ _ _).mono ?_;rintro e w' ⟨rfl,rfl⟩))
    go_round
    case rel=>exact ⟨k+1,by omega,by go_num,by rw [HS.out]⟩
    case measure=>simp [intOf];omega
  ·obtain rfl:k=3:=by omega
   go_wp2_with (first|(go_at_call 87;refine (three_any _ _).mono ?_;rintro e w' ⟨rfl,rfl⟩))
   go_ret2
   exact ⟨rfl,rfl⟩
end Go.Proofs.YtnllcknfmciebaaGreatDoor.I11
