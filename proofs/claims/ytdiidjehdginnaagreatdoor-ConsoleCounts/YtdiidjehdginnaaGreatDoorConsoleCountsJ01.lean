/- Texts without a word of the program, one behind the other. -/
import Derived.Laws.BitsLemmas
import Derived.WalkKit
import Derived.ProofKit
import Derived.Deep.QuietTactic
import Derived.BigQuiet
import Derived.Below
import Derived.OneCell
import Derived.Deep.Quiet
import Derived.Laws.Rows
import Derived.Laws.Tables
import Derived.Laws.CopyOwn
import Derived.Laws.ResultCell
import Derived.WalkMore
import Derived.Handy
import Derived.BigFrame
import Derived.Laws.MakeOwn
import Derived.Laws.OwnMore
import Derived.DataReads
import Derived.ChangeSlices
import Derived.Test.YtdiidjehdginnaaGreatDoorRows
import Derived.OpenShut
import Derived.ShutString
import Derived.ChangeOld
import Derived.Carry
import Derived.ChangeArms
import Derived.Deep.Slices
import Derived.Laws.StructEq
import Derived.Deep.MidRow
import Derived.ChangeKeysEq
import GoSem.ClaimJoined
namespace Go.Proofs.YtdiidjehdginnaaGreatDoor
set_option maxRecDepth 20000
variable {a:Act} {L:Array Bool} {args:Array Value} {Q:Exit→Act→World→Prop} {k:Int} {l:List Oper} {id j:Nat} {P:Program} {v:Value} {W w:World}
theorem zbE (n:Int) (h0:0≤n) (h1:n<2 ^ 62):IntKind.i64.wrap n=n:=by
 rw [IntKind.wrap_i64];omega
theorem zbt (j:Nat) (hj:j≤62) (n:Int):bits .and .i64 n ((2 ^ j-1:Nat):Int)=n%((2 ^ j:Nat):Int):=by
 have hp:2 ^ j≤2 ^ 62:=Nat.pow_le_pow_right (by decide) hj;have hpos:0<2 ^ j:=Nat.two_pow_pos j;have hm:(BitVec.ofInt 64 ((2 ^ j-1:Nat):Int)).toNat=2 ^ j-1:=by
  rw [BitVec.ofInt_natCast,BitVec.toNat_ofNat];exact Nat.mod_eq_of_lt (by omega)
 have key:(BitVec.ofInt 64 n &&& BitVec.ofInt 64 ((2 ^ j-1:Nat):Int)).toNat=(n%((2 ^ 64:Nat):Int)).toNat%2 ^ j:=by
  rw [BitVec.toNat_and,BitVec.toNat_ofInt,hm,Nat.and_two_pow_sub_one_eq_mod]
 show IntKind.i64.wrap ((BitVec.ofInt 64 n &&& BitVec.ofInt 64 ((2 ^ j-1:Nat):Int)).toNat:Nat)=_;have hlt:(n%((2 ^ 64:Nat):Int)).toNat%2 ^ j<2 ^ j:=Nat.mod_lt _ hpos;rw [key,zbE _ (by omega) (by omega)];have h1:0≤n%((2 ^ 64:Nat):Int):=Int.emod_nonneg _ (by decide);rw [Int.natCast_emod,Int.toNat_of_nonneg h1]
 exact Int.emod_emod_of_dvd n (by
  have:2 ^ j ∣ 2 ^ 64:=Nat.pow_dvd_pow 2 (by omega)
  exact_mod_cast this)
theorem zho (n:Int):bits .and .i64 n 1=n%2:=zbt 1 (by decide) n
theorem zxC (n:Int):bits .and .i64 n 3=n%4:=zbt 2 (by decide) n
theorem zhK (n:Int):bits .and .i64 n 7=n%8:=zbt 3 (by decide) n
theorem zcX (n:Int):bits .and .i64 n 15=n%16:=zbt 4 (by decide) n
theorem zxD (n:Int):bits .and .i64 n 255=n%256:=zbt 8 (by decide) n
theorem zqt (n:Int):bits .and .i64 n 65535=n%65536:=zbt 16 (by decide) n
theorem zeN (a b:Nat) (ha:a<2 ^ 62) (hb:b<2 ^ 62):
  bits .and .i64 (a:Int) (b:Int)=((a &&& b:Nat):Int)∧bits .or .i64 (a:Int) (b:Int)=((a ||| b:Nat):Int):=
 bits_nat .i64 62 (by decide) zbE a b ha hb
theorem zjF (a:Int) (h0:0≤a) (h1:a<2 ^ 62):bits .or .i64 0 a=a:=by
 obtain ⟨a,rfl⟩:=Int.eq_ofNat_of_zero_le h0;have:=(zeN 0 a (by decide) (by omega)).2
 simpa using this
theorem or_comm (a b:Int):bits .or .i64 a b=bits .or .i64 b a:=by simp only [bits,BitVec.or_comm]
theorem zha (i:Nat) (x y:Int) (hx0:0≤x) (hx:x%2 ^ i=0) (hx1:x<2 ^ 62) (hy0:0≤y) (hy:y<2 ^ i) (hy1:y<2 ^ 62):bits .or .i64 x y=x+y:=
 bits_join .i64 62 (by decide) zbE i x y hx0 hx hx1 hy0 hy hy1
theorem zjG (x y:BitVec 64):(x &&& y) &&& (x &&& ~~~y)=0#64:=by
 ext i hi
 simp only [BitVec.getElem_and,BitVec.getElem_not,BitVec.getElem_zero];cases x[i]<;>cases y[i]<;>rfl
theorem zmT (x y:BitVec 64):(x &&& y)+(x &&& ~~~y)=x:=by
 rw [BitVec.add_eq_or_of_and_eq_zero _ _ (zjG x y)]
 ext i hi
 simp only [BitVec.getElem_and,BitVec.getElem_not,BitVec.getElem_or];cases x[i]<;>cases y[i]<;>rfl
theorem zjH (a k:Nat):a &&& 2 ^ k=(a/2 ^ k%2)*2 ^ k:=by
 have hb:a.testBit k=decide (a/2 ^ k%2=1):=Nat.testBit_eq_decide_div_mod_eq;apply Nat.eq_of_testBit_eq;intro i;rw [Nat.testBit_and,Nat.testBit_two_pow];rcases Nat.mod_two_eq_zero_or_one (a/2 ^ k) with h|h
 ·rw [h] at hb ⊢
  by_cases e:k=i
  ·subst e;simp [hb]
  ·simp [e]
 ·rw [h] at hb ⊢;rw [Nat.one_mul,Nat.testBit_two_pow]
  by_cases e:k=i
  ·subst e;simp [hb]
  ·simp [e]
theorem zoo (a k:Nat) (ha:a<2 ^ 62) (hk:k<62):bits .andNot .i64 (a:Int) ((2 ^ k:Nat):Int)=((a-(a/2 ^ k%2)*2 ^ k:Nat):Int):=by
 have hp:2 ^ k<2 ^ 62:=Nat.pow_lt_pow_right (by decide) hk;have ha':(BitVec.ofNat 64 a).toNat=a:=by rw [BitVec.toNat_ofNat];exact Nat.mod_eq_of_lt (by omega)
 have hb':(BitVec.ofNat 64 (2 ^ k)).toNat=2 ^ k:=by rw [BitVec.toNat_ofNat];exact Nat.mod_eq_of_lt (by omega)
 have ht:=BitVec.toNat_add_of_and_eq_zero (zjG (BitVec.ofNat 64 a) (BitVec.ofNat 64 (2 ^ k)));rw [zmT,ha',BitVec.toNat_and (BitVec.ofNat 64 a) (BitVec.ofNat 64 (2 ^ k)),ha',hb',zjH] at ht;show IntKind.i64.wrap ((BitVec.ofInt 64 (a:Int) &&& ~~~ BitVec.ofInt 64 ((2 ^ k:Nat):Int)).toNat:Nat)=_;rw [BitVec.ofInt_natCast,BitVec.ofInt_natCast];have e:(BitVec.ofNat 64 a &&& ~~~ BitVec.ofNat 64 (2 ^ k)).toNat=a-(a/2 ^ k%2)*2 ^ k:=by omega
 rw [e,zbE _ (by omega) (by omega)]
theorem ziL (a k:Int) (h0:0≤a) (ha:a<2 ^ 62) (hk0:0≤k) (hk:k<62):bits .andNot .i64 a (2 ^ k.toNat)=a-a/2 ^ k.toNat%2*2 ^ k.toNat:=by
 obtain ⟨a,rfl⟩:=Int.eq_ofNat_of_zero_le h0;obtain ⟨k,rfl⟩:=Int.eq_ofNat_of_zero_le hk0;have h:=zoo a k (by omega) (by omega);have hle:a/2 ^ k%2*2 ^ k≤a:=by rw [←zjH];exact Nat.and_le_left
 rw [Int.natCast_sub hle] at h
 simpa using h
def zaV (n k:Int):Int:=if 0≤k∧k<16 then n%65536/2 ^ k.toNat%2 else 0
def ziM (n k:Int) (on:Bool):Int:=if 0≤k∧k<16 then n%65536-zaV n k*2 ^ k.toNat+(if on=true then 2 ^ k.toNat else 0) else n%65536
def zfF (n:Int):Int:=if 128≤n%256 then n%256-256 else n%256
def zhL (zs:List Int):Int:=zs.foldl (bits .or .i64) 0
theorem zop (zs:List Int) (k:Nat) (hk:k<zs.length):zhL (zs.take (k+1))=bits .or .i64 (zhL (zs.take k)) (zs[k]?.getD 0):=by
 unfold zhL;rw [List.take_add_one,List.foldl_append];simp [List.getElem?_eq_getElem hk]
theorem zds (n k:Int):0≤zaV n k∧zaV n k≤1:=by unfold zaV;split<;>omega
theorem zAa (k:Int) (h0:0≤k) (h1:k<16):(1:Int)≤2 ^ k.toNat∧(2:Int) ^ k.toNat≤32768:=by
 have:k=0∨k=1∨k=2∨k=3∨k=4∨k=5∨k=6∨k=7∨k=8∨k=9∨k=10∨k=11∨k=12∨k=13∨k=14∨k=15:=by omega
 rcases this with h|h|h|h|h|h|h|h|h|h|h|h|h|h|h|h<;>subst h<;>decide
def inW (k:Int):Bool:=decide (0≤k∧k<16)
theorem zma (h0:0≤k) (h1:k<16):inW k=true:=by simp [inW,h0,h1]
theorem zmU (h:¬(0≤k∧k<16)):inW k=false:=by simp only [inW,h,decide_false]
theorem zoq (a b:Int):zhL [a%256,b%256*256]=a%256+256*(b%256):=by
 unfold zhL;simp only [List.foldl];rw [zjF _ (by omega) (by omega),or_comm,zha 8 _ _ (by omega) (by omega) (by omega) (by omega) (by omega) (by omega)];omega
theorem zqu (n k:Int) (h0:0≤k) (h1:k<16):zhL [n%65536-zaV n k*2 ^ k.toNat,2 ^ k.toNat]=n%65536-zaV n k*2 ^ k.toNat+2 ^ k.toNat:=by
 have hb:zaV n k=n%65536/2 ^ k.toNat%2:=by unfold zaV;rw [if_pos ⟨h0,h1⟩]
 rw [hb];have hw:0≤n%65536∧n%65536<65536:=by omega
 generalize n%65536=m at *;obtain ⟨k,rfl⟩:=Int.eq_ofNat_of_zero_le h0;simp only [Int.toNat_natCast];have hk:k<16:=by omega
 obtain ⟨m,rfl⟩:=Int.eq_ofNat_of_zero_le hw.1;have hm:m<65536:=by omega
 clear hw h0 h1 hb;have hp1:0<2 ^ k:=Nat.two_pow_pos k;have hp2:2 ^ k≤32768:=Nat.pow_le_pow_right (i:=k) (j:=15) (by decide) (by omega);have hle:m/2 ^ k%2*2 ^ k≤m:=by rw [←zjH];exact Nat.and_le_left
 have key:bits .or .i64 ((m-m/2 ^ k%2*2 ^ k:Nat):Int) ((2 ^ k:Nat):Int)=((m-m/2 ^ k%2*2 ^ k+2 ^ k:Nat):Int):=by
  rw [(zeN _ _ (by omega) (by omega)).2]
  congr 1
  have e:m-m/2 ^ k%2*2 ^ k=2 ^ (k+1)*(m/2 ^ (k+1))+m%2 ^ k:=by
   have h1:=Nat.div_add_mod m (2 ^ k);have h2:=Nat.div_add_mod (m/2 ^ k) 2;rw [Nat.div_div_eq_div_mul,←Nat.pow_succ] at h2;have h3:2 ^ (k+1)*(m/2 ^ (k+1))=2 ^ k*(2*(m/2 ^ (k+1))):=by rw [Nat.pow_succ,Nat.mul_assoc]
   have h4:2 ^ k*(m/2 ^ k)=2 ^ k*(2*(m/2 ^ (k+1)))+2 ^ k*(m/2 ^ k%2):=by rw [←Nat.mul_add,h2]
   rw [h3,Nat.mul_comm (m/2 ^ k%2)];omega
  have hlo:m%2 ^ k<2 ^ k:=Nat.mod_lt _ hp1;rw [e];apply Nat.eq_of_testBit_eq;intro i;have hlo':m%2 ^ k<2 ^ (k+1):=by rw [Nat.pow_succ];omega
  have hlo2:2 ^ k+m%2 ^ k<2 ^ (k+1):=by rw [Nat.pow_succ];omega
  have hsum:2 ^ (k+1)*(m/2 ^ (k+1))+m%2 ^ k+2 ^ k=2 ^ (k+1)*(m/2 ^ (k+1))+(2 ^ k+m%2 ^ k):=by omega
  have hor:2 ^ k+m%2 ^ k=2 ^ k ||| m%2 ^ k:=by
   have:=Nat.two_pow_add_eq_or_of_lt hlo 1
   simpa using this
  rw [hsum,hor,Nat.two_pow_add_eq_or_of_lt hlo',Nat.two_pow_add_eq_or_of_lt (by rw [←hor];exact hlo2)];simp only [Nat.testBit_or];cases (2 ^ (k+1)*(m/2 ^ (k+1))).testBit i<;>cases (m%2 ^ k).testBit i<;>cases (2 ^ k).testBit i<;>rfl
 unfold zhL;simp only [List.foldl];have c1:((m:Int)-(m:Int)/2 ^ k%2*2 ^ k)=((m-m/2 ^ k%2*2 ^ k:Nat):Int):=by
  rw [Int.natCast_sub hle];simp
 have c2:(2:Int) ^ k=((2 ^ k:Nat):Int):=by simp
 rw [c1,c2,zjF _ (by omega) (by omega),key,Int.natCast_add]
theorem zqv (n k:Int) (h0:0≤k) (h1:k<16):ziM n k true=n%65536-zaV n k*2 ^ k.toNat+2 ^ k.toNat:=by
 unfold ziM;rw [if_pos ⟨h0,h1⟩];simp
theorem zqw (n k:Int) (h0:0≤k) (h1:k<16):ziM n k false=n%65536-zaV n k*2 ^ k.toNat:=by
 unfold ziM;rw [if_pos ⟨h0,h1⟩];simp
theorem zqx (n k:Int) (on:Bool) (h:¬(0≤k∧k<16)):ziM n k on=n%65536:=by
 unfold ziM;rw [if_neg h]
theorem zhu (n k:Int) (h0:0≤k) (h1:k<16):zaV n k=n%65536/2 ^ k.toNat%2:=by
 unfold zaV;rw [if_pos ⟨h0,h1⟩]
theorem zwJ (n k:Int) (h0:0≤k) (h1:k<16):bits .andNot .i64 (n%65536) (2 ^ k.toNat)=n%65536-zaV n k*2 ^ k.toNat:=by
 rw [zhu n k h0 h1];exact ziL _ _ (by omega) (by omega) h0 (by omega)
theorem zor (n:Int):bits .and .i64 n 262143=n%262144:=zbt 18 (by decide) n
open Go.RowKit
theorem hide {p:Prop} (h:p):Hid p:=h
theorem zeO {B:Nat} {a:World} (h:Below B a w) (n:Nat):Below B a (w.drewN n):=h.trans ⟨rfl,rfl,rfl,Nat.le_refl _,fun _ _=>rfl⟩
theorem zkR (w:World) (zs:List Int) (t N:Nat) (hN:N=w.heap.size):∀j,j<zs.length→(w.alloc (.cells (zs.map (Value.int .i64)).toArray t)).cell? ⟨N,0+j,none⟩=some (.int .i64 (zs[j]?.getD 0)):=by
 intro j hj;subst hN;simp [hj]
theorem zaz {a b:World} (h:Below w.heap.size w a) (k:Below a.heap.size a b):Below w.heap.size w b:=h.trans (k.mono h.size)
theorem zbc {a b:Bool} (h:a=b):Ending.returned (.bool a)=.returned (.bool b):=by rw [h]
theorem zat {a b:Int} (h:a=b):Ending.returned (.int .i64 a)=.returned (.int .i64 b):=by rw [h]
theorem zdU {a b c d:Int} (h:a=c) (k:b=d):Ending.returned (.tuple #[.int .i64 a,.int .i64 b])=.returned (.tuple #[.int .i64 c,.int .i64 d]):=by rw [h,k]
theorem ziZ {a b:Int} {c d:Bool} (h:a=b) (k:c=d):Ending.returned (.tuple #[.int .i64 a,.bool c])=.returned (.tuple #[.int .i64 b,.bool d]):=by rw [h,k]
def Kept (W:World):Type:={ x:World // Below W.heap.size W x }
def Kept.val {W:World} (x:Kept W):World:=Subtype.val x
theorem Kept.below (x:Kept W):Below W.heap.size W x.val:=Subtype.property x
def kept {W x:World} (h:Below W.heap.size W x):Kept W:=⟨x,h⟩
theorem zax (W:World):Nonempty (Kept W):=⟨kept (Below.refl _ W)⟩
theorem Kept.cell (x:Kept W) (b o:Nat) (h:b<W.heap.size):x.val.cell? ⟨b,o,none⟩=W.cell? ⟨b,o,none⟩:=x.below.cell (p:=⟨b,o,none⟩) h
theorem Kept.block (x:Kept W) (b:Nat) (h:b<W.heap.size):x.val.heap[b]? = W.heap[b]? :=x.below.block b h
theorem zah {b o:Nat} (h:W.cell? ⟨b,o,none⟩=some v) (hb:b<W.heap.size):∀x:Kept W,x.val.cell? ⟨b,o,none⟩=some v:=fun x=>(x.cell b o hb).trans h
theorem zbn (hm:P.follows .mixedOrders=true) (hB:Region.lexB .any l.toArray=true)
  (h:wpQuiet P l.toArray (fun w'=>∃x:Kept w,w'=x.val) (fun a'=>∀w',(∃x:Kept w,w'=x.val)→Q .normal a' w') l a):(Code.region id l.toArray true).wp P Q a w:=
 wp_region_quiet (C:=fun w'=>∃x:Kept w,w'=x.val) hm hB ⟨kept (Below.refl _ w).drew,rfl⟩ (by simpa using h)
theorem zaL {f:FuncId} {x:Kept W} 
  (h:Calls P f args x.val fun e w'=>e=.returned v∧Below x.val.heap.size x.val w'):Calls P f args x.val fun e w''=>e=.returned v∧∃y:Kept W,w''=y.val:=
 h.mono fun _ _ ⟨he,hb⟩=>⟨he,kept (zaz x.below hb),rfl⟩
theorem zaF {f:FuncId} {x:Kept W} 
  (h:Calls P f args x.val fun e w'=>e=.returned v∧w'=x.val):Calls P f args x.val fun e w''=>e=.returned v∧∃y:Kept W,w''=y.val:=
 h.mono fun _ _ ⟨he,hb⟩=>⟨he,x,hb⟩
set_option linter.unusedVariables false
theorem zaT (h:j<L.size) (b d:Bool):(L.push b).getD j d=L.getD j d:=by
 rw [Array.getD_eq_getD_getElem?,Array.getD_eq_getD_getElem?,Array.getElem?_push_lt h,Array.getElem?_eq_getElem h]
theorem zdV (b d:Bool):(L.push b).getD L.size d=b:=by
 rw [Array.getD_eq_getD_getElem?,Array.getElem?_push_size];rfl
theorem zaY (h:j<L.size) (d e:Bool):L.getD j d=L.getD j e:=by
 rw [Array.getD_eq_getD_getElem?,Array.getD_eq_getD_getElem?,Array.getElem?_eq_getElem h];rfl
def zub (md:Region.Mode) (H:List Oper) (o:Oper):Bool:=
 (List.range H.length).all (fun i=>match H[i]? with|some x=>x.guard.isNone&&x.after.all (fun e=>!Region.binds md e||decide (e.on<i))|none=>true) &&
 o.after.all (fun e=>decide (e.on<H.length))&&(List.range H.length).all (fun i=>o.after.any fun e=>Region.binds md e&&e.on==i)
variable {P:Program} {md:Region.Mode} {C:World→Prop} {Q:Exit→Act→World→Prop} {H:List Oper} {o:Oper}
theorem zos (h:zub md H o=true):(∀(i:Nat) (x:Oper),H[i]? = some x→x.guard=none∧∀e ∈ x.after,Region.binds md e=true→e.on<i)∧(∀e ∈ o.after,e.on<H.length)∧∀i,i<H.length→∃e ∈ o.after,Region.binds md e=true∧e.on=i:=by
 unfold zub at h;rw [Bool.and_eq_true,Bool.and_eq_true] at h;obtain ⟨⟨h1,h2⟩,h3⟩:=h;refine ⟨fun i x hx=>?_,fun e he=>?_,fun i hi=>?_⟩
 ·have hi:i<H.length:=by
   rcases Nat.lt_or_ge i H.length with k|k
   ·exact k
   ·rw [List.getElem?_eq_none k] at hx;cases hx
  have k:=List.all_eq_true.1 h1 i (List.mem_range.2 hi);rw [hx] at k;simp only [Bool.and_eq_true,Option.isNone_iff_eq_none] at k;exact ⟨k.1,fun e he hb=>by simpa [hb] using Array.all_eq_true'.1 k.2 e he⟩
 ·simpa using Array.all_eq_true'.1 h2 e he
 ·have k:=List.all_eq_true.1 h3 i (List.mem_range.2 hi);obtain ⟨e,he,hb⟩:=Array.any_eq_true'.1 k;simp only [Bool.and_eq_true,beq_iff_eq] at hb;exact ⟨e,he,hb⟩
theorem zdW {i:Nat} (h:i<H.length):(H++[o]).toArray[i]? = H.toArray[i]? :=by
 simp [List.getElem?_append_left h]
theorem zhM:(H++[o]).toArray[H.length]? = some o:=by simp
theorem zdJ (hb:∀(i:Nat) (x:Oper),H[i]? = some x→x.guard=none∧∀e ∈ x.after,Region.binds md e=true→e.on<i) (hs:L.size=H.length) (h:Region.ready md H.toArray L=[]):∀i,i<H.length→L.getD i true=true:=by
 intro i
 induction i using Nat.strongRecOn with
 |_ i ih=>
  intro hi;cases k:L.getD i true with
  |true=>rfl
  |false=>
   exfalso;have hx:H[i]? = some H[i]:=List.getElem?_eq_getElem hi
   have:i ∈ Region.ready md H.toArray L:=mem_ready.2 ⟨k,H[i],by simp,fun e he hbe=>by
    have h1:=(hb i H[i] hx).2 e he hbe;rw [zaY (by omega) false true]
    exact ih e.on h1 (by omega)⟩
   rw [h] at this;cases this
theorem zuc {ops:Array Oper} (h:∀j,j<ops.size→L.getD j true=true) (hq:Q .normal a w):∀f,wpAny P md ops Q f L a w:=by
 have e:Region.ready md ops L=[]:=by
  apply List.eq_nil_iff_forall_not_mem.2;intro i hi;obtain ⟨h1,x,h2,_⟩:=mem_ready.1 hi;have h3:i<ops.size:=(Array.getElem?_eq_some_iff.1 h2).1;rw [h i h3] at h1;cases h1
 intro f;cases f with
 |zero=>exact ⟨e,hq⟩
 |succ f=>exact ⟨fun _=>hq,fun i hi=>by rw [e] at hi;cases hi⟩
theorem zdt (ho:∀e ∈ o.after,e.on<H.length) (hs:L.size=H.length) (hL:∀i,i<H.length→L.getD i true=true)   (h:wpList P (H++[o]).toArray Q [o] a w) (f:Nat):
  wpAny P md (H++[o]).toArray Q (f+1) (L.push false) a w:=by
 refine ⟨fun e=>?_,fun i hi=>?_⟩
 ·exfalso
  have:H.length ∈ Region.ready md (H++[o]).toArray (L.push false):=mem_ready.2 ⟨by rw [←hs];exact zdV _ _,o,zhM,fun e he _=>by
   have h1:=ho e he;rw [zaT (by omega),zaY (by omega) false true]
   exact hL _ h1⟩
  rw [e] at this;cases this
 ·obtain ⟨h1,x,h2,_⟩:=mem_ready.1 hi;have h3:i<H.length+1:=by simpa using (Array.getElem?_eq_some_iff.1 h2).1
  have hin:i=H.length:=by
   rcases Nat.lt_or_ge i H.length with k|k
   ·rw [zaT (by omega),hL i k] at h1;cases h1
   ·omega
  subst hin;have hw:wpOp P (H++[o]).toArray Q H.length (fun a w=>Q .normal a w) a w:=by
   unfold wpOp;rw [zhM];exact h
  refine wpOp_mono (fun a' w' hq=>zuc (fun j hj=>?_) hq f) hw;have hj':j<H.length+1:=by simpa using hj
  rcases Nat.lt_or_ge j H.length with k|k
  ·rw [getD_set_ne true (by omega),zaT (by omega)];exact hL j k
  ·have:j=H.length:=by omega
   subst this;rw [Array.getD_eq_getD_getElem?,Array.getElem?_setIfInBounds_self_of_lt (by simp [hs])];rfl
theorem zmV (hb:∀(i:Nat) (x:Oper),H[i]? = some x→x.guard=none∧∀e ∈ x.after,Region.binds md e=true→e.on<i) (ho:∀e ∈ o.after,e.on<H.length) (hw:∀i,i<H.length→∃e ∈ o.after,Region.binds md e=true∧e.on=i):
  ∀(fuel:Nat) (L:Array Bool) (a:Act) (w:World),L.size=H.length→C w→wpAnyQ P md H.toArray C (fun a=>∀w,C w→wpList P (H++[o]).toArray Q [o] a w) fuel L a →
   wpAny P md (H++[o]).toArray Q (fuel+1) (L.push false) a w
 |0,L,a,w,hs,hC,h=>zdt ho hs (zdJ hb hs h.1) (h.2 w hC) 0
 |fuel+1,L,a,w,hs,hC,h=>by
  by_cases e:Region.ready md H.toArray L=[]
  ·exact zdt ho hs (zdJ hb hs e) (h.1 e w hC) (fuel+1)
  ·obtain ⟨i0,hi0⟩:=List.exists_mem_of_ne_nil _ e;obtain ⟨u0,x0,y0,z0⟩:=mem_ready.1 hi0;have l0:i0<H.length:=by simpa using (Array.getElem?_eq_some_iff.1 y0).1
   have r0:i0 ∈ Region.ready md (H++[o]).toArray (L.push false):=mem_ready.2 ⟨by rw [zaT (by omega)];exact u0,x0,by rw [zdW l0];exact y0,fun e he hbi=>by
    have h1:=(hb i0 x0 (by simpa using y0)).2 e he hbi;rw [zaT (by omega)]
    exact z0 e he hbi⟩
   refine ⟨fun e1=>(by rw [e1] at r0;cases r0),fun i hi=>?_⟩
   obtain ⟨u,x,y,z⟩:=mem_ready.1 hi;have h3:i<H.length+1:=by simpa using (Array.getElem?_eq_some_iff.1 y).1
   have hin:i<H.length:=by
    rcases Nat.lt_or_ge i H.length with k|k
    ·exact k
    ·exfalso;have:i=H.length:=by omega
     subst this;rw [zhM] at y;cases y
     obtain ⟨e2,he2,hb2,on2⟩:=hw i0 l0;have h4:=z e2 he2 hb2;rw [on2,zaT (by omega),zaY (by omega) false true,u0] at h4;cases h4
   rw [zdW hin] at y;have hx:H[i]? = some x:=by simpa using y
   have hr:i ∈ Region.ready md H.toArray L:=mem_ready.2 ⟨by rw [zaT (by omega)] at u;exact u,x,y,fun e he hbi=>by
    have h1:=(hb i x hx).2 e he hbi;have h2:=z e he hbi;rw [zaT (by omega)] at h2
    exact h2⟩
   have hq:=h.2 i hr;have hq2:qOp P (H++[o]).toArray C i (wpAnyQ P md H.toArray C (fun a=>∀w,C w→wpList P (H++[o]).toArray Q [o] a w) fuel (L.setIfInBounds i true)) a:=by
    unfold qOp at hq ⊢;rw [zdW hin];rw [y] at hq ⊢;simp only [Region.wanted,(hb i x hx).1,if_true] at hq ⊢;exact hq
   have hset:(L.push false).setIfInBounds i true=(L.setIfInBounds i true).push false:=by
    apply Array.ext_getElem?;intro j;rw [Array.getElem?_setIfInBounds,Array.getElem?_push,Array.getElem?_push,Array.getElem?_setIfInBounds];simp only [Array.size_push,Array.size_setIfInBounds]
    by_cases hij:i=j
    ·subst hij;rw [if_pos rfl,if_pos (by omega),if_neg (by omega),if_pos rfl,if_pos (by omega)]
    ·rw [if_neg hij,if_neg hij]
   rw [hset];exact wpOp_of_qOp hC (fun a' w' hC' h'=>zmV hb ho hw fuel _ a' w' (by simp [hs]) hC' h') hq2
theorem ziN (H:List Oper) (o:Oper) (hl:l=H++[o]) (hm:P.follows .mixedOrders=true) (hB:Region.lexB .any H.toArray=true) (hB2:zub .any H o=true) (hC:C { w with drawn:=w.drawn+1 })
  (h:wpQuiet P H.toArray C (fun a'=>∀w',C w'→wpList P l.toArray Q [o] a' w') H a):(Code.region id l.toArray true).wp P Q a w:=by
 subst hl;simp only [Region.lexB,Bool.and_eq_true] at hB;obtain ⟨h1,h2,h3⟩:=zos hB2;refine wp_region_any hm ?_;have k:=wpAnyQ_lex (C:=C) (md:=.any) hB.1 H 0 (Array.replicate H.toArray.size false) a (by simp) (by simpa using hB.2) h;have k2:=zmV h1 h2 h3 H.length (Array.replicate H.toArray.size false) a _ (by simp) hC k;have e:(Array.replicate H.toArray.size false).push false=Array.replicate (H++[o]).toArray.size false:=by
  simp [Array.replicate_succ]
 rw [e] at k2
 simpa using k2
theorem zaR (H:List Oper) (o:Oper) (hl:l=H++[o]) (hm:P.follows .mixedOrders=true) (hB:Region.lexB .any H.toArray=true) (hB2:zub .any H o=true)
  (h:wpQuiet P H.toArray (fun w'=>∃x:Kept w,w'=x.val) (fun a'=>∀w',(∃x:Kept w,w'=x.val)→wpList P l.toArray Q [o] a' w') H a):(Code.region id l.toArray true).wp P Q a w:=
 ziN (C:=fun w'=>∃x:Kept w,w'=x.val) H o hl hm hB hB2 ⟨kept (Below.refl _ w).drew,rfl⟩ h
end Go.Proofs.YtdiidjehdginnaaGreatDoor
namespace Go.Proofs.YtdiidjehdginnaaGreatDoor
set_option maxRecDepth 20000
open Go.RowKit
set_option linter.unusedVariables false
variable {a:Act} {l:List Oper} {id:Nat} {w:World}
def zeP (md:Region.Mode) (H:List Oper) (o:Oper):Bool:=
 (List.range H.length).all (fun i=>match H[i]? with|some x=>x.guard.isNone&&x.after.all (fun e=>!Region.binds md e||decide (e.on<i))|none=>true) &&
 o.after.all (fun e=>decide (e.on<H.length))&&(List.range H.length).all (fun i=>(o.after.any fun e=>Region.binds md e&&e.on==i)||(List.range H.length).any fun j=>match H[j]? with|some x=>x.after.any (fun e=>Region.binds md e&&e.on==i)|none=>false)
variable {P:Program} {md:Region.Mode} {C:World→Prop} {Q:Exit→Act→World→Prop} {H:List Oper} {o:Oper}
theorem zfG (h:zeP md H o=true):(∀(i:Nat) (x:Oper),H[i]? = some x→x.guard=none∧∀e ∈ x.after,Region.binds md e=true→e.on<i)∧(∀e ∈ o.after,e.on<H.length) ∧
  ∀i,i<H.length→(∃e ∈ o.after,Region.binds md e=true∧e.on=i)∨∃(j:Nat) (x:Oper),H[j]? = some x∧∃e ∈ x.after,Region.binds md e=true∧e.on=i:=by
 unfold zeP at h;rw [Bool.and_eq_true,Bool.and_eq_true] at h;obtain ⟨⟨h1,h2⟩,h3⟩:=h;refine ⟨fun i x hx=>?_,fun e he=>?_,fun i hi=>?_⟩
 ·have hi:i<H.length:=by
   rcases Nat.lt_or_ge i H.length with k|k
   ·exact k
   ·rw [List.getElem?_eq_none k] at hx;cases hx
  have k:=List.all_eq_true.1 h1 i (List.mem_range.2 hi);rw [hx] at k;simp only [Bool.and_eq_true,Option.isNone_iff_eq_none] at k;exact ⟨k.1,fun e he hb=>by simpa [hb] using Array.all_eq_true'.1 k.2 e he⟩
 ·simpa using Array.all_eq_true'.1 h2 e he
 ·have k:=List.all_eq_true.1 h3 i (List.mem_range.2 hi);rcases Bool.or_eq_true _ _▸k with k|k
  ·obtain ⟨e,he,hb⟩:=Array.any_eq_true'.1 k;simp only [Bool.and_eq_true,beq_iff_eq] at hb;exact .inl ⟨e,he,hb⟩
  ·obtain ⟨j,hj,hb⟩:=List.any_eq_true.1 k;split at hb
   ·rename_i x hx;obtain ⟨e,he,hb⟩:=Array.any_eq_true'.1 hb;simp only [Bool.and_eq_true,beq_iff_eq] at hb;exact .inr ⟨j,x,hx,e,he,hb⟩
   ·cases hb
def zcJ (md:Region.Mode) (H:List Oper) (L:Array Bool):Prop:=∀(j:Nat) (x:Oper),H[j]? = some x→L.getD j true=true→∀e ∈ x.after,Region.binds md e=true→L.getD e.on true=true
theorem zmW (hw:∀i,i<H.length→(∃e ∈ o.after,Region.binds md e=true∧e.on=i)∨∃(j:Nat) (x:Oper),H[j]? = some x∧∃e ∈ x.after,Region.binds md e=true∧e.on=i)
  (hb:∀(i:Nat) (x:Oper),H[i]? = some x→x.guard=none∧∀e ∈ x.after,Region.binds md e=true→e.on<i) {L:Array Bool} (hS:zcJ md H L) (hr:∀e ∈ o.after,Region.binds md e=true→L.getD e.on true=true):
  ∀n i,i<H.length→H.length≤i+n→L.getD i true=true
 |0,i,hi,hn=>by omega
 |n+1,i,hi,hn=>by
  rcases hw i hi with ⟨e,he,hbe,rfl⟩|⟨j,x,hx,e,he,hbe,rfl⟩
  ·exact hr e he hbe
  ·have hj:e.on<j:=(hb j x hx).2 e he hbe;have hjl:j<H.length:=by
    rcases Nat.lt_or_ge j H.length with k|k
    ·exact k
    ·rw [List.getElem?_eq_none k] at hx;cases hx
   exact hS j x hx (zmW hw hb hS hr n j hjl (by omega)) e he hbe
theorem zmX (hb:∀(i:Nat) (x:Oper),H[i]? = some x→x.guard=none∧∀e ∈ x.after,Region.binds md e=true→e.on<i) (ho:∀e ∈ o.after,e.on<H.length)
  (hw:∀i,i<H.length→(∃e ∈ o.after,Region.binds md e=true∧e.on=i)∨∃(j:Nat) (x:Oper),H[j]? = some x∧∃e ∈ x.after,Region.binds md e=true∧e.on=i):
  ∀(fuel:Nat) (L:Array Bool) (a:Act) (w:World),L.size=H.length→zcJ md H L→C w→wpAnyQ P md H.toArray C (fun a=>∀w,C w→wpList P (H++[o]).toArray Q [o] a w) fuel L a →
   wpAny P md (H++[o]).toArray Q (fuel+1) (L.push false) a w
 |0,L,a,w,hs,hS,hC,h=>zdt ho hs (zdJ hb hs h.1) (h.2 w hC) 0
 |fuel+1,L,a,w,hs,hS,hC,h=>by
  by_cases e:Region.ready md H.toArray L=[]
  ·exact zdt ho hs (zdJ hb hs e) (h.1 e w hC) (fuel+1)
  ·obtain ⟨i0,hi0⟩:=List.exists_mem_of_ne_nil _ e;obtain ⟨u0,x0,y0,z0⟩:=mem_ready.1 hi0;have l0:i0<H.length:=by simpa using (Array.getElem?_eq_some_iff.1 y0).1
   have r0:i0 ∈ Region.ready md (H++[o]).toArray (L.push false):=mem_ready.2 ⟨by rw [zaT (by omega)];exact u0,x0,by rw [zdW l0];exact y0,fun e he hbi=>by
    have h1:=(hb i0 x0 (by simpa using y0)).2 e he hbi;rw [zaT (by omega)]
    exact z0 e he hbi⟩
   refine ⟨fun e1=>(by rw [e1] at r0;cases r0),fun i hi=>?_⟩
   obtain ⟨u,x,y,z⟩:=mem_ready.1 hi;have h3:i<H.length+1:=by simpa using (Array.getElem?_eq_some_iff.1 y).1
   have hin:i<H.length:=by
    rcases Nat.lt_or_ge i H.length with k|k
    ·exact k
    ·exfalso;have:i=H.length:=by omega
     subst this;rw [zhM] at y;cases y
     have hr:∀e ∈ o.after,Region.binds md e=true→L.getD e.on true=true:=fun e2 he2 hb2=>by
      have h4:=z e2 he2 hb2;have h5:=ho e2 he2;rw [zaT (by omega),zaY (by omega) false true] at h4;exact h4
     have h6:=zmW hw hb hS hr H.length i0 l0 (by omega);rw [u0] at h6;cases h6
   rw [zdW hin] at y;have hx:H[i]? = some x:=by simpa using y
   have hr:i ∈ Region.ready md H.toArray L:=mem_ready.2 ⟨by rw [zaT (by omega)] at u;exact u,x,y,fun e he hbi=>by
    have h1:=(hb i x hx).2 e he hbi;have h2:=z e he hbi;rw [zaT (by omega)] at h2
    exact h2⟩
   have hq:=h.2 i hr;have hq2:qOp P (H++[o]).toArray C i (wpAnyQ P md H.toArray C (fun a=>∀w,C w→wpList P (H++[o]).toArray Q [o] a w) fuel (L.setIfInBounds i true)) a:=by
    unfold qOp at hq ⊢;rw [zdW hin];rw [y] at hq ⊢;simp only [Region.wanted,(hb i x hx).1,if_true] at hq ⊢;exact hq
   have hset:(L.push false).setIfInBounds i true=(L.setIfInBounds i true).push false:=by
    apply Array.ext_getElem?;intro j;rw [Array.getElem?_setIfInBounds,Array.getElem?_push,Array.getElem?_push,Array.getElem?_setIfInBounds];simp only [Array.size_push,Array.size_setIfInBounds]
    by_cases hij:i=j
    ·subst hij;rw [if_pos rfl,if_pos (by omega),if_neg (by omega),if_pos rfl,if_pos (by omega)]
    ·rw [if_neg hij,if_neg hij]
   rw [hset];have hS2:zcJ md H (L.setIfInBounds i true):=by
    intro j xj hxj hj e he hbe;have hlt:=(hb j xj hxj).2 e he hbe
    by_cases hji:j=i
    ·subst hji;rw [hx] at hxj;cases hxj
     have h2:=z e he hbe;rw [zaT (by omega)] at h2;rw [getD_set_ne true (by omega)];rw [zaY (by omega) false true] at h2;exact h2
    ·rw [getD_set_ne true (by omega)] at hj;have h2:=hS j xj hxj hj e he hbe
     by_cases hei:e.on=i
     ·rw [hei,Array.getD_eq_getD_getElem?,Array.getElem?_setIfInBounds_self_of_lt (by omega)];rfl
     ·rw [getD_set_ne true (by omega)];exact h2
   exact wpOp_of_qOp hC (fun a' w' hC' h'=>zmX hb ho hw fuel _ a' w' (by simp [hs]) hS2 hC' h') hq2
theorem ziO (H:List Oper) (o:Oper) (hl:l=H++[o]) (hm:P.follows .mixedOrders=true) (hB:Region.lexB .any H.toArray=true) (hB2:zeP .any H o=true) (hC:C { w with drawn:=w.drawn+1 })
  (h:wpQuiet P H.toArray C (fun a'=>∀w',C w'→wpList P l.toArray Q [o] a' w') H a):(Code.region id l.toArray true).wp P Q a w:=by
 subst hl;simp only [Region.lexB,Bool.and_eq_true] at hB;obtain ⟨h1,h2,h3⟩:=zfG hB2;refine wp_region_any hm ?_;have k:=wpAnyQ_lex (C:=C) (md:=.any) hB.1 H 0 (Array.replicate H.toArray.size false) a (by simp) (by simpa using hB.2) h;have hS:zcJ .any H (Array.replicate H.toArray.size false):=by
  intro j x hx hj;exfalso;have hjl:j<H.length:=by
   rcases Nat.lt_or_ge j H.length with k|k
   ·exact k
   ·rw [List.getElem?_eq_none k] at hx;cases hx
  simp [Array.getD,hjl] at hj
 have k2:=zmX h1 h2 h3 H.length (Array.replicate H.toArray.size false) a _ (by simp) hS hC k;have e:(Array.replicate H.toArray.size false).push false=Array.replicate (H++[o]).toArray.size false:=by
  simp [Array.replicate_succ]
 rw [e] at k2
 simpa using k2
theorem zaq {P:Program} {Q:Exit→Act→World→Prop} (H:List Oper) (o:Oper) (hl:l=H++[o]) (hm:P.follows .mixedOrders=true) (hB:Region.lexB .any H.toArray=true) (hB2:zeP .any H o=true)
  (h:wpQuiet P H.toArray (fun w'=>∃x:Kept w,w'=x.val) (fun a'=>∀w',(∃x:Kept w,w'=x.val)→wpList P l.toArray Q [o] a' w') H a):(Code.region id l.toArray true).wp P Q a w:=
 ziO (C:=fun w'=>∃x:Kept w,w'=x.val) H o hl hm hB hB2 ⟨kept (Below.refl _ w).drew,rfl⟩ h
end Go.Proofs.YtdiidjehdginnaaGreatDoor
namespace Go.Proofs.YtdiidjehdginnaaGreatDoor
set_option maxRecDepth 20000
open Go.RowKit
set_option linter.unusedVariables false
variable {a:Act} {L:Array Bool} {x y:Bool} {N fuel g i:Nat} {o:Oper} {s:Option (Nat×Array Value)} {t ty:TypeId} {w:World}
def KC (W:World):World→Prop:=fun w'=>∃x:Kept W,w'=x.val
theorem zxE (W:World):KC W W:=⟨kept (Below.refl _ W),rfl⟩
theorem zud {W:World} (h:KC W w):Below W.heap.size W w:=by obtain ⟨x,rfl⟩:=h;exact x.below
variable {P:Program} {md:Region.Mode} {H:List Oper} {C:World→Prop} {A1:Act} {wa:World}
theorem zAb {j:Nat} (h:(L.setIfInBounds i true).getD j true=false):L.getD j true=false∧j≠i:=by
 by_cases e:i=j
 ·subst e;exfalso;rcases Nat.lt_or_ge i L.size with k|k
  ·rw [Array.getD_eq_getD_getElem?,Array.getElem?_setIfInBounds_self_of_lt k] at h;cases h
  ·rw [Array.getD_eq_getD_getElem?,Array.getElem?_eq_none (by simpa using k)] at h;cases h
 ·exact ⟨by rwa [getD_set_ne true e] at h,fun k=>e k.symm⟩
theorem zhN (d:Tmp):∀(fuel:Nat) (L:Array Bool) (a:Act),(∀(j:Nat) (o:Oper),H[j]? = some o→L.getD j true=false→o.dst≠some d) →
  wpAnyQ P md H.toArray C (fun a=>a=A1) fuel L a→A1.eval (.tmp d)=a.eval (.tmp d)
 |0,L,a,hd,h=>by rw [←h.2]
 |fuel+1,L,a,hd,h=>by
  by_cases e:Region.ready md H.toArray L=[]
  ·rw [←h.1 e]
  ·obtain ⟨i,hi⟩:=List.exists_mem_of_ne_nil _ e;obtain ⟨u,o,ho,_⟩:=mem_ready.1 hi;have ho':H[i]? = some o:=by simpa using ho
   obtain ⟨v,_,hv⟩:=yieldsIn_of_qOp ho (h.2 i hi);have k:=zhN d fuel _ _ (fun j x hx hj=>hd j x hx (zAb hj).1) hv;rw [k];exact Act.eval_put fun d' hd' e2=>hd i o ho' u (by rw [hd'];cases e2;rfl)
def Fam (P:Program) (md:Region.Mode) (H:List Oper) (A1:Act) (wa:World) (fuel:Nat) (L:Array Bool) (a:Act):Prop:=
 ∀W,Below wa.heap.size wa W→wpAnyQ P md H.toArray (KC W) (fun a=>a=A1) fuel L a
def ownB (md:Region.Mode) (H:List Oper) (N:Nat) (dA:Tmp):Bool:=
 (List.range H.length).all fun i=>match H[i]? with
  |none=>true
  |some o=>o.guard.isNone&&(match o.op with|.select _ _=>false|_=>true)&&!(o.looksAt H.toArray).contains dA&&o.after.all (fun e=>!Region.binds md e||decide (e.on<i)) &&
   (match o.dst with|none=>false|some d=>decide (d<N)&&decide (d≠dA)&&(List.range H.length).all fun j=>decide (j=i)||(match H[j]? with|none=>true|some x=>decide (x.dst≠some d)))
theorem zca {dA:Tmp} (h:ownB md H N dA=true) (ho:H[i]? = some o):
  o.guard=none∧(∀cs b,o.op≠.select cs b)∧dA ∉ o.looksAt H.toArray∧(∀e ∈ o.after,Region.binds md e=true→e.on<i)∧∃d,o.dst=some d∧d<N∧d≠dA∧∀(j:Nat) (x:Oper),H[j]? = some x→j≠i→x.dst≠some d:=by
 have hi:i<H.length:=by
  rcases Nat.lt_or_ge i H.length with k|k
  ·exact k
  ·rw [List.getElem?_eq_none k] at ho;cases ho
 have k:=List.all_eq_true.1 h i (List.mem_range.2 hi);rw [ho] at k;simp only [Bool.and_eq_true,Option.isNone_iff_eq_none] at k;obtain ⟨⟨⟨⟨k1,k2⟩,k3⟩,k4⟩,k5⟩:=k;refine ⟨k1,fun cs b e=>?_,by simpa using k3,fun e he hb=>?_,?_⟩
 ·rw [e] at k2;cases k2
 ·have:=Array.all_eq_true'.1 k4 e he
  simpa [hb] using this
 ·split at k5
  ·cases k5
  ·rename_i d hd;simp only [Bool.and_eq_true,decide_eq_true_eq] at k5;refine ⟨d,hd,k5.1.1,k5.1.2,fun j x hx hji=>?_⟩;have hj:j<H.length:=by
    rcases Nat.lt_or_ge j H.length with k|k
    ·exact k
    ·rw [List.getElem?_eq_none k] at hx;cases hx
   have k6:=List.all_eq_true.1 k5.2 j (List.mem_range.2 hj);rw [hx] at k6
   simpa [hji] using k6
theorem zhv (a:Act) (d:Option Tmp) (v:Value):(a.put d v).tmps.size=a.tmps.size:=by cases d<;>simp [Act.put]
theorem zmY (a:Act) (d:Tmp) (v:Value) (h:d<a.tmps.size):(a.put (some d) v).eval (.tmp d)=v:=by
 simp [Act.eval,Act.put,h]
theorem zue {dA:Tmp} (hO:ownB md H N dA=true) (hi:i ∈ Region.ready md H.toArray L) (ho:H[i]? = some o) (hF:Fam P md H A1 wa (fuel+1) L a) (hN:a.tmps.size=N):
  ∃v,(∀W,Below wa.heap.size wa W→∀w,KC W w→o.quietAt P a (KC W) w v)∧Fam P md H A1 wa fuel (L.setIfInBounds i true) (a.put o.dst v):=by
 obtain ⟨g0,g1,g2,g3,d,hd,hdN,hdA,hdj⟩:=zca hO ho;have hoa:H.toArray[i]? = some o:=by simpa using ho
 have key:∀W,Below wa.heap.size wa W→(∀w,KC W w→o.quietAt P a (KC W) w (A1.eval (.tmp d)))∧wpAnyQ P md H.toArray (KC W) (fun a=>a=A1) fuel (L.setIfInBounds i true) (a.put o.dst (A1.eval (.tmp d))):=by
  intro W hW;obtain ⟨v,hy,hv⟩:=yieldsIn_of_qOp hoa ((hF W hW).2 i hi);have e:=zhN d fuel _ _ (fun j x hx hj=>hdj j x hx (zAb hj).2) hv;rw [hd,zmY a d v (by rw [hN];exact hdN)] at e;subst e;rcases hy with ⟨_,hy⟩|⟨hy,_⟩
  ·exact ⟨hy,hv⟩
  ·simp [Region.wanted,g0] at hy
 exact ⟨_,fun W hW=>(key W hW).1,fun W hW=>(key W hW).2⟩
def actS (dA:Tmp):Option (Nat×Array Value)→Act→Act
 |none,a=>a
 |some (g,_),a=>a.put (some dA) (.pointer (some ⟨g,0,none⟩))
def inS (wa:World) (t:TypeId):Option (Nat×Array Value)→World→Prop
 |none,w=>Below wa.heap.size wa w
 |some (g,cs),w=>Below wa.heap.size wa w∧w.heap[g]? = some (.cells cs t (0,0))∧wa.heap.size≤g
theorem inS.below (h:inS wa t s w):Below wa.heap.size wa w:=by
 match s,h with
 |none,h=>exact h
 |some (g,cs),h=>exact h.1
theorem inS.next {w':World} (h:inS wa t s w) (k:Below w.heap.size w w'):inS wa t s w':=by
 match s,h with
 |none,h=>exact zaz h k
 |some (g,cs),h=>exact ⟨zaz h.1 k,(k.block g (lt_of_block h.2.1)).trans h.2.1,h.2.2⟩
theorem zuf (dA:Tmp) (s:Option (Nat×Array Value)) (a:Act) (d:Option Tmp) (v:Value) (h:d≠some dA):(actS dA s a).put d v=actS dA s (a.put d v):=by
 match s with
 |none=>rfl
 |some (g,cs)=>exact Act.put_comm a _ v fun d' e=>by cases e;exact h
theorem zhw {ops:Array Oper} {Q:Exit→Act→World→Prop} {dA:Tmp} (hO:ownB md H N dA=true)      (hi:i ∈ Region.ready md H.toArray L) (ho:H[i]? = some o) (hoo:ops[i]? = some o)
  (hF:Fam P md H A1 wa (fuel+1) L a) (hN:a.tmps.size=N)    (hin:inS wa t s w) {K:Act→World→Prop}
  (hK:∀v w',inS wa t s w'→Fam P md H A1 wa fuel (L.setIfInBounds i true) (a.put o.dst v)→K (actS dA s (a.put o.dst v)) w'):wpOp P ops Q i K (actS dA s a) w:=by
 obtain ⟨g0,g1,g2,g3,d,hd,hdN,hdA,hdj⟩:=zca hO ho;obtain ⟨v,hq,hF'⟩:=zue hO hi ho hF hN;unfold wpOp;rw [hoo];simp only [Region.wanted,g0,if_true];refine .inl (Oper.wp_of_quiet (C:=KC w) (K:=fun a'=>a'=(actS dA s a).put o.dst v) (zxE w) (fun a' w' hc e=>?_) ⟨v,fun w1 h1=>?_,rfl⟩)
 ·subst e;rw [zuf dA s a o.dst v (by rw [hd];intro e;cases e;exact hdA rfl)]
  exact hK v w' (hin.next (zud hc)) hF'
 ·have k:=hq w hin.below w1 h1;unfold Oper.quietAt at *;have e:execOp (actS dA s a).eval o=execOp a.eval o:=by
   match s with
   |none=>rfl
   |some (g,cs)=>exact execOp_put (ops:=H.toArray) o g1 a (some dA) _ (fun d' e=>by cases e;exact g2)
  rw [e];exact k
theorem zcl (h:i<L.size) (b:Bool):(L.push b).setIfInBounds i true=(L.setIfInBounds i true).push b:=by
 apply Array.ext_getElem?;intro j;rw [Array.getElem?_setIfInBounds,Array.getElem?_push,Array.getElem?_push,Array.getElem?_setIfInBounds];simp only [Array.size_push,Array.size_setIfInBounds]
 by_cases hij:i=j
 ·subst hij;rw [if_pos rfl,if_pos (by omega),if_neg (by omega),if_pos rfl,if_pos (by omega)]
 ·rw [if_neg hij,if_neg hij]
theorem zdX (b:Bool):(L.push b).setIfInBounds L.size true=L.push true:=by
 apply Array.ext_getElem?;intro j;rw [Array.getElem?_setIfInBounds,Array.getElem?_push,Array.getElem?_push]
 by_cases hij:L.size=j
 ·subst hij;simp
 ·rw [if_neg hij,if_neg (fun e=>hij e.symm),if_neg (fun e=>hij e.symm)]
def lst (L:Array Bool) (x y:Bool):Array Bool:=((L.push x).push y).push false
theorem zdY {j:Nat} (h:j<L.size) (d:Bool):(lst L x y).getD j d=L.getD j d:=by
 unfold lst;rw [zaT (by simp;omega),zaT (by simp;omega),zaT h]
theorem zot (d:Bool):(lst L x y).getD L.size d=x:=by
 unfold lst;rw [zaT (by simp;omega),zaT (by simp),zdV]
theorem zou (d:Bool):(lst L x y).getD (L.size+1) d=y:=by
 unfold lst;rw [zaT (by simp)];have:=zdV (L:=L.push x) y d
 simpa using this
theorem zmb (h:i<L.size):(lst L x y).setIfInBounds i true=lst (L.setIfInBounds i true) x y:=by
 unfold lst;rw [zcl (by simp;omega),zcl (by simp;omega),zcl h]
theorem zqy :(lst L x y).setIfInBounds L.size true=lst L true y:=by
 unfold lst;rw [zcl (by simp;omega),zcl (by simp),zdX]
theorem zqz :(lst L x y).setIfInBounds (L.size+1) true=lst L x true:=by
 unfold lst;rw [zcl (by simp)];have:=zdX (L:=L.push x) y;simp at this;rw [this]
variable {oA oS oF:Oper} {N:Nat} {dA:Tmp}
theorem zew (h:i<H.length):((H++[oA,oS])++[oF]).toArray[i]? = H.toArray[i]? :=by
 simp [List.getElem?_append_left h]
theorem zqA:((H++[oA,oS])++[oF]).toArray[H.length]? = some oA:=by simp
theorem zjI:((H++[oA,oS])++[oF]).toArray[H.length+1]? = some oS:=by simp
theorem zxF:((H++[oA,oS])++[oF]).toArray[H.length+2]? = some oF:=by simp
theorem zgy (hO:ownB md H N dA=true) (hs:L.size=H.length)  (h:i<H.length) (k:i ∈ Region.ready md ((H++[oA,oS])++[oF]).toArray (lst L x y)):i ∈ Region.ready md H.toArray L:=by
 obtain ⟨u,o,ho,hall⟩:=mem_ready.1 k;rw [zew h] at ho;have ho':H[i]? = some o:=by simpa using ho
 rw [zdY (by omega)] at u
 exact mem_ready.2 ⟨u,o,ho,fun e he hb=>by
  have h1:=(zca hO ho').2.2.2.1 e he hb;have h2:=hall e he hb
  rwa [zdY (by omega)] at h2⟩
theorem zmZ (hO:ownB md H N dA=true) (hs:L.size=H.length)  (k:i ∈ Region.ready md H.toArray L):i ∈ Region.ready md ((H++[oA,oS])++[oF]).toArray (lst L x y):=by
 obtain ⟨u,o,ho,hall⟩:=mem_ready.1 k;have ho':H[i]? = some o:=by simpa using ho
 have h:i<H.length:=by
  rcases Nat.lt_or_ge i H.length with k|k
  ·exact k
  ·rw [List.getElem?_eq_none k] at ho';cases ho'
 exact mem_ready.2 ⟨by rw [zdY (by omega)];exact u,o,by rw [zew h];exact ho,fun e he hb=>by
  have h1:=(zca hO ho').2.2.2.1 e he hb;rw [zdY (by omega)]
  exact hall e he hb⟩
theorem zhx (hO:ownB md H N dA=true) (hs:L.size=H.length) (h:Region.ready md H.toArray L=[]):∀i,i<H.length→L.getD i true=true:=by
 intro i
 induction i using Nat.strongRecOn with
 |_ i ih=>
  intro hi;cases k:L.getD i true with
  |true=>rfl
  |false=>
   exfalso;have hx:H[i]? = some H[i]:=List.getElem?_eq_getElem hi
   have:i ∈ Region.ready md H.toArray L:=mem_ready.2 ⟨k,H[i],by simp,fun e he hb=>by
    have h1:=(zca hO hx).2.2.2.1 e he hb;rw [zaY (by omega) false true]
    exact ih e.on h1 (by omega)⟩
   rw [h] at this;cases this
def zmc (md:Region.Mode) (H:List Oper) (oA oS oF:Oper) (dA x:Tmp):Bool:=
 (oA.guard.isNone&&decide (oA.dst=some dA))&&(oS.guard.isNone&&decide (oS.dst=none)&&decide (x≠dA)) &&
 (oS.after.all (fun e=>!Region.binds md e||decide (e.on≤H.length))&&oS.after.any (fun e=>Region.binds md e&&e.on==H.length)) &&
 ((List.range H.length).all fun j=>match H[j]? with|some o=>decide (o.dst≠some x)||oS.after.any (fun e=>Region.binds md e&&e.on==j)|none=>true) &&
 (oF.after.all (fun e=>decide (e.on<H.length+2))&&(List.range (H.length+2)).all fun i=>oF.after.any fun e=>Region.binds md e&&e.on==i)
theorem zja {l:Array Edge} (h:(l.any fun e=>Region.binds md e&&e.on==i)=true):∃e ∈ l,Region.binds md e=true∧e.on=i:=by
 obtain ⟨e,he,hb⟩:=Array.any_eq_true'.1 h;simp only [Bool.and_eq_true,beq_iff_eq] at hb;exact ⟨e,he,hb⟩
theorem zdK {x:Tmp} (h:zmc md H oA oS oF dA x=true):
  (oA.guard=none∧oA.dst=some dA)∧(oS.guard=none∧oS.dst=none∧x≠dA)∧(∀e ∈ oS.after,Region.binds md e=true→e.on≤H.length)∧(∃e ∈ oS.after,Region.binds md e=true∧e.on=H.length) ∧
   (∀(j:Nat) (o:Oper),H[j]? = some o→o.dst=some x→∃e ∈ oS.after,Region.binds md e=true∧e.on=j)∧(∀e ∈ oF.after,e.on<H.length+2)∧∀i,i<H.length+2→∃e ∈ oF.after,Region.binds md e=true∧e.on=i:=by
 unfold zmc at h;simp only [Bool.and_eq_true,Option.isNone_iff_eq_none,decide_eq_true_eq] at h;obtain ⟨⟨⟨⟨h1,h2⟩,h3,h4⟩,h5⟩,h6,h7⟩:=h;refine ⟨h1,⟨h2.1.1,h2.1.2,h2.2⟩,fun e he hb=>?_,zja h4,fun j o ho hx=>?_,fun e he=>?_,fun i hi=>?_⟩
 ·have:=Array.all_eq_true'.1 h3 e he
  simpa [hb] using this
 ·have hj:j<H.length:=by
   rcases Nat.lt_or_ge j H.length with k|k
   ·exact k
   ·rw [List.getElem?_eq_none k] at ho;cases ho
  have k:=List.all_eq_true.1 h5 j (List.mem_range.2 hj);rw [ho] at k;simp only [Bool.or_eq_true,decide_eq_true_eq] at k;rcases k with k|k
  ·exact absurd hx k
  ·exact zja k
 ·simpa using Array.all_eq_true'.1 h6 e he
 ·exact zja (List.all_eq_true.1 h7 i (List.mem_range.2 hi))
theorem zjJ (hs:L.size=H.length) (k:i ∈ Region.ready md ((H++[oA,oS])++[oF]).toArray (lst L x y)):
  i<H.length∨(i=H.length∧x=false)∨(i=H.length+1∧y=false)∨i=H.length+2:=by
 obtain ⟨u,o,ho,_⟩:=mem_ready.1 k;have h3:i<H.length+3:=by simpa using (Array.getElem?_eq_some_iff.1 ho).1
 rcases Nat.lt_or_ge i H.length with h|h
 ·exact .inl h
 ·by_cases e:i=H.length
  ·subst e;rw [←hs,zot] at u;exact .inr (.inl ⟨rfl,u⟩)
  ·by_cases e2:i=H.length+1
   ·subst e2;rw [←hs,zou] at u;exact .inr (.inr (.inl ⟨rfl,u⟩))
   ·exact .inr (.inr (.inr (by omega)))
theorem zgz {x:Tmp} (hT:zmc md H oA oS oF dA x=true) {p q:Bool} (k:H.length+2 ∈ Region.ready md ((H++[oA,oS])++[oF]).toArray (lst L p q)):∀i,i<H.length+2→(lst L p q).getD i false=true:=by
 obtain ⟨u,o,ho,hall⟩:=mem_ready.1 k;rw [zxF] at ho;cases ho
 intro i hi;obtain ⟨e,he,hb,on⟩:=(zdK hT).2.2.2.2.2.2 i hi;rw [←on];exact hall e he hb
theorem zmd (hF:Fam P md H A1 wa fuel L a) (e:Region.ready md H.toArray L=[]):a=A1:=by
 have h:=hF wa (Below.refl _ _);cases fuel with
 |zero=>exact h.2
 |succ f=>exact h.1 e
theorem zhy (hF:Fam P md H A1 wa fuel L a) (e:i ∈ Region.ready md H.toArray L):∃f,fuel=f+1:=by
 have h:=hF wa (Below.refl _ _);cases fuel with
 |zero=>rw [h.1] at e;cases e
 |succ f=>exact ⟨f,rfl⟩
variable {Q:Exit→Act→World→Prop} {t:TypeId} {x:Tmp}
theorem zAc {row:Array Value} (hO:ownB md H N dA=true) (hT:zmc md H oA oS oF dA x=true)
  (hEnd:∀w,inS wa t (some (g,row)) w→wpList P ((H++[oA,oS])++[oF]).toArray Q [oF] (actS dA (some (g,row)) A1) w):
  ∀(fuel:Nat) (L:Array Bool) (a:Act) (w:World),L.size=H.length→a.tmps.size=N→inS wa t (some (g,row)) w→Fam P md H A1 wa fuel L a →
   wpAny P md ((H++[oA,oS])++[oF]).toArray Q (fuel+1) (lst L true true) (actS dA (some (g,row)) a) w:=by
 intro fuel
 induction fuel with
 |zero=>
  intro L a w hs hN hin hF;have e:Region.ready md H.toArray L=[]:=(hF wa (Below.refl _ _)).1;have hall:=zhx hO hs e;have hA:=zmd hF e;subst hA
  exact zdt (H:=H++[oA,oS]) (o:=oF) (by simpa using (zdK hT).2.2.2.2.2.1) (by simp [hs]) (fun i hi=>by
   have hi':i<H.length+2:=by simpa using hi
   have k:(lst L true true).getD i true=true:=by
    by_cases h1:i<H.length
    ·rw [zdY (by omega)];exact hall i h1
    ·by_cases h2:i=H.length
     ·subst h2;rw [←hs];exact zot true
     ·have h3:i=H.length+1:=by omega
      subst h3;rw [←hs];exact zou true
   unfold lst at k
   rwa [zaT (by simp [hs];omega)] at k) (hEnd w hin) 0
 |succ fuel ih=>
  intro L a w hs hN hin hF
  by_cases e:Region.ready md H.toArray L=[]
  ·have hall:=zhx hO hs e;have hA:=zmd hF e;subst hA
   exact zdt (H:=H++[oA,oS]) (o:=oF) (by simpa using (zdK hT).2.2.2.2.2.1) (by simp [hs]) (fun i hi=>by
    have hi':i<H.length+2:=by simpa using hi
    have k:(lst L true true).getD i true=true:=by
     by_cases h1:i<H.length
     ·rw [zdY (by omega)];exact hall i h1
     ·by_cases h2:i=H.length
      ·subst h2;rw [←hs];exact zot true
      ·have h3:i=H.length+1:=by omega
       subst h3;rw [←hs];exact zou true
    unfold lst at k
    rwa [zaT (by simp [hs];omega)] at k) (hEnd w hin) (fuel+1)
  ·obtain ⟨i0,hi0⟩:=List.exists_mem_of_ne_nil _ e;refine ⟨fun e1=>?_,fun i hi=>?_⟩
   ·have:=zmZ (oA:=oA) (oS:=oS) (oF:=oF) (x:=true) (y:=true) hO hs hi0;rw [e1] at this;cases this
   ·rcases zjJ hs hi with h|⟨_,h⟩|⟨_,h⟩|h
    ·have hr:=zgy hO hs h hi;obtain ⟨u,o,ho,_⟩:=mem_ready.1 hr;have ho':H[i]? = some o:=by simpa using ho
     refine zhw hO hr ho' (by rw [zew h];exact ho) hF hN hin fun v w' hin' hF'=>?_
     rw [zmb (by omega)];exact ih _ _ _ (by simpa using hs) (by rw [zhv];exact hN) hin' hF'
    ·cases h
    ·cases h
    ·subst h;exfalso;obtain ⟨u0,o0,ho0,_⟩:=mem_ready.1 hi0;have l0:i0<H.length:=by simpa using (Array.getElem?_eq_some_iff.1 ho0).1
     have k:=zgz hT hi i0 (by omega);rw [zdY (by omega),zaY (by omega) false true,u0] at k;cases k
theorem zAd {zs row:Array Value} (hO:ownB md H N dA=true) (hT:zmc md H oA oS oF dA x=true) (hop:oS.op=.store ty (.tmp dA) (.tmp x)) (hi:(P.info? ty).map (·.size)=some row.size) (hold:zs.size=row.size) (h1:row.all (·.oneCell')=true)
  (hx:A1.eval (.tmp x)=.agg row) (hdN:dA<N)
  (hEnd:∀w,inS wa t (some (g,row)) w→wpList P ((H++[oA,oS])++[oF]).toArray Q [oF] (actS dA (some (g,row)) A1) w):
  ∀(fuel:Nat) (L:Array Bool) (a:Act) (w:World),L.size=H.length→a.tmps.size=N→inS wa t (some (g,zs)) w→Fam P md H A1 wa fuel L a →
   wpAny P md ((H++[oA,oS])++[oF]).toArray Q (fuel+2) (lst L true false) (actS dA (some (g,zs)) a) w:=by
 obtain ⟨⟨a1,a2⟩,⟨s1,s2,s3⟩,s4,s5,s6,f1,f2⟩:=zdK hT;intro fuel
 induction fuel using Nat.strongRecOn with
 |_ fuel ih=>
  intro L a w hs hN hin hF;refine ⟨fun e1=>?_,fun i hi'=>?_⟩
  ·exfalso
   by_cases e:Region.ready md H.toArray L=[]
   ·have hall:=zhx hO hs e
    have:H.length+1 ∈ Region.ready md ((H++[oA,oS])++[oF]).toArray (lst L true false):=mem_ready.2 ⟨by rw [←hs];exact zou true,oS,zjI,fun e he hb=>by
     have k:=s4 e he hb;rcases Nat.lt_or_ge e.on H.length with k2|k2
     ·rw [zdY (by omega),zaY (by omega) false true];exact hall _ k2
     ·have k3:e.on=L.size:=by omega
      rw [k3];exact zot false⟩
    rw [e1] at this;cases this
   ·obtain ⟨i0,hi0⟩:=List.exists_mem_of_ne_nil _ e;have:=zmZ (oA:=oA) (oS:=oS) (oF:=oF) (x:=true) (y:=false) hO hs hi0;rw [e1] at this;cases this
  ·rcases zjJ hs hi' with h|⟨_,h⟩|⟨h,_⟩|h
   ·have hr:=zgy hO hs h hi';obtain ⟨u,o,ho,_⟩:=mem_ready.1 hr;have ho':H[i]? = some o:=by simpa using ho
    obtain ⟨f,rfl⟩:=zhy hF hr;refine zhw hO hr ho' (by rw [zew h];exact ho) hF hN hin fun v w' hin' hF'=>?_
    rw [zmb (by omega)];exact ih f (by omega) _ _ _ (by simpa using hs) (by rw [zhv];exact hN) hin' hF'
   ·cases h
   ·subst h;obtain ⟨u,o,ho,hall⟩:=mem_ready.1 hi';unfold wpOp;rw [zjI];simp only [Region.wanted,s1,if_true];have ex:a.eval (.tmp x)=.agg row:=by
     rw [←hx];refine (zhN x fuel L a (fun j p hp hj hd=>?_) (hF wa (Below.refl _ _))).symm;rw [zjI] at ho;cases ho
     obtain ⟨e,he,hb,on⟩:=s6 j p hp hd;have k:=hall e he hb;have hjl:j<H.length:=by
      rcases Nat.lt_or_ge j H.length with k|k
      ·exact k
      ·rw [List.getElem?_eq_none k] at hp;cases hp
     rw [on,zdY (by omega),zaY (by omega) false true,hj] at k;cases k
    refine .inl (wp_store_row ty (.tmp dA) (.tmp x) hop g row (zmY a dA _ (by rw [hN];exact hdN)) ?_ t zs hin.2.1 hi hold h1 ?_)
    ·show (a.put (some dA) _).eval (.tmp x)=_;rw [Act.eval_put (fun d e e2=>by cases e;cases e2;exact s3 rfl)]
     exact ex
    ·rw [s2,←hs,zqz];exact zAc hO hT hEnd fuel L a _ hs hN ⟨below_setRow hin.1 hin.2.2 _,setRow_heap _ _ _ _ _ _ hin.2.1,hin.2.2⟩ hF
   ·subst h;exfalso;have k:=zgz hT hi' (H.length+1) (by omega);rw [←hs,zou] at k;cases k
theorem zAe {zs row:Array Value} (hO:ownB md H N dA=true) (hT:zmc md H oA oS oF dA x=true) (hop:oS.op=.store ty (.tmp dA) (.tmp x)) (hi:(P.info? ty).map (·.size)=some row.size) (hold:zs.size=row.size) (h1:row.all (·.oneCell')=true)
  (hx:A1.eval (.tmp x)=.agg row) (hdN:dA<N) (hA:∀(a:Act) (w:World),(execOp a.eval oA).run P w=.ok (.value (.pointer (some ⟨w.heap.size,0,none⟩))) (w.alloc (.cells zs t)))
  (hEnd:∀g w,inS wa t (some (g,row)) w→wpList P ((H++[oA,oS])++[oF]).toArray Q [oF] (actS dA (some (g,row)) A1) w):
  ∀(fuel:Nat) (L:Array Bool) (a:Act) (w:World),L.size=H.length→a.tmps.size=N→inS wa t none w→Fam P md H A1 wa fuel L a→(∀e ∈ oA.after,Region.binds md e=false) →
   wpAny P md ((H++[oA,oS])++[oF]).toArray Q (fuel+3) (lst L false false) a w:=by
 obtain ⟨⟨a1,a2⟩,⟨s1,s2,s3⟩,s4,⟨eS,heS,hbS,onS⟩,s6,f1,f2⟩:=zdK hT;intro fuel
 induction fuel using Nat.strongRecOn with
 |_ fuel ih=>
  intro L a w hs hN hin hF hn;refine ⟨fun e1=>?_,fun i hi'=>?_⟩
  ·exfalso;have:H.length ∈ Region.ready md ((H++[oA,oS])++[oF]).toArray (lst L false false):=mem_ready.2 ⟨by rw [←hs];exact zot true,oA,zqA,fun e he hb=>by rw [hn e he] at hb;cases hb⟩
   rw [e1] at this;cases this
  ·rcases zjJ hs hi' with h|⟨h,_⟩|⟨h,_⟩|h
   ·have hr:=zgy hO hs h hi';obtain ⟨u,o,ho,_⟩:=mem_ready.1 hr;have ho':H[i]? = some o:=by simpa using ho
    obtain ⟨f,rfl⟩:=zhy hF hr;refine zhw (s:=none) hO hr ho' (by rw [zew h];exact ho) hF hN hin fun v w' hin' hF'=>?_
    rw [zmb (by omega)];exact ih f (by omega) (L.setIfInBounds i true) (a.put o.dst v) w' (by simpa using hs) (by rw [zhv];exact hN) hin' hF' hn
   ·subst h;unfold wpOp;rw [zqA];simp only [Region.wanted,a1,if_true];refine .inl ?_;unfold Oper.wp;rw [hA];show wpAny P md _ Q (fuel+2) ((lst L false false).setIfInBounds H.length true) (a.put oA.dst _) (w.alloc _);rw [a2,←hs,zqy];exact zAd hO hT hop hi hold h1 hx hdN (hEnd w.heap.size) fuel L a _ hs hN ⟨hin.alloc hin.size _,heap_alloc_new _ _,hin.size⟩ hF
   ·subst h;exfalso;obtain ⟨u,o,ho,hall⟩:=mem_ready.1 hi';rw [zjI] at ho;cases ho
    have k:=hall eS heS hbS;rw [onS,←hs,zot] at k;cases k
   ·subst h;exfalso;have k:=zgz hT hi' (H.length+1) (by omega);rw [←hs,zou] at k;cases k
theorem zfk {id:Nat} {l:List Oper} (H:List Oper) (oA oS oF:Oper) (hl:l=(H++[oA,oS])++[oF]) (zs row:Array Value) (ty:TypeId) (N:Nat) (dA x:Tmp) (t:TypeId) (hm:P.follows .mixedOrders=true) (hB:Region.lexB .any H.toArray=true)
  (hO:ownB .any H N dA=true) (hT:zmc .any H oA oS oF dA x=true) (hn:oA.after=#[]) (hN:a.tmps.size=N) (hdN:dA<N) (hop:oS.op=.store ty (.tmp dA) (.tmp x)) (hi:(P.info? ty).map (·.size)=some row.size) (hold:zs.size=row.size) (h1:row.all (·.oneCell')=true)
  (hA:∀(a:Act) (w:World),(execOp a.eval oA).run P w=.ok (.value (.pointer (some ⟨w.heap.size,0,none⟩))) (w.alloc (.cells zs t)))
  (h:∃A1:Act,(∀W,Below w.heap.size w W→wpQuiet P H.toArray (fun w'=>∃x:Kept W,w'=x.val) (fun a'=>a'=A1) H a)∧A1.eval (.tmp x)=.agg row ∧
   ∀g w',Below w.heap.size w w'→w'.heap[g]? = some (.cells row t (0,0))→w.heap.size≤g→wpList P l.toArray Q [oF] (A1.put (some dA) (.pointer (some ⟨g,0,none⟩))) w'):(Code.region id l.toArray true).wp P Q a w:=by
 obtain ⟨A1,hW,hx,hEnd⟩:=h;subst hl;simp only [Region.lexB,Bool.and_eq_true] at hB;refine wp_region_any hm ?_;have bd:Below w.heap.size w { w with drawn:=w.drawn+1 }:=(Below.refl _ w).drew;have hF:Fam P .any H A1 { w with drawn:=w.drawn+1 } H.length (Array.replicate H.toArray.size false) a:=fun W hW'=>
  wpAnyQ_lex (C:=KC W) (md:=.any) hB.1 H 0 (Array.replicate H.toArray.size false) a (by simp) (by simpa using hB.2) (hW W (bd.trans hW'))
 have k:=zAe (Q:=Q) (wa:={ w with drawn:=w.drawn+1 }) hO hT hop hi hold h1 hx hdN hA (fun g w' h=>hEnd g w' (bd.trans h.1) h.2.1 h.2.2) H.length (Array.replicate H.toArray.size false) a _ (by simp) hN (Below.refl _ _) hF (by rw [hn];intro e he;simp at he);have e:lst (Array.replicate H.toArray.size false) false false=Array.replicate ((H++[oA,oS])++[oF]).toArray.size false:=by
  unfold lst;simp [Array.replicate_succ]
 rw [e] at k
 simpa using k
end Go.Proofs.YtdiidjehdginnaaGreatDoor
namespace Go.Proofs.YtdiidjehdginnaaGreatDoor
set_option maxRecDepth 20000
open Go.RowKit
set_option linter.unusedVariables false
variable {P:Program} {md:Region.Mode} {H:List Oper} {A1:Act} {wa:World} {Q:Exit→Act→World→Prop} {oA oS:Oper} {N:Nat} {dA:Tmp} {tA:TypeId} {zA:Array Value}
variable {L:Array Bool} {x:Bool} {i:Nat}
def lst2 (L:Array Bool) (x:Bool):Array Bool:=(L.push x).push false
theorem zfH {j:Nat} (h:j<L.size) (d:Bool):(lst2 L x).getD j d=L.getD j d:=by
 unfold lst2;rw [zaT (by simp;omega),zaT h]
theorem zqB (d:Bool):(lst2 L x).getD L.size d=x:=by
 unfold lst2;rw [zaT (by simp),zdV]
theorem zug (h:i<L.size):(lst2 L x).setIfInBounds i true=lst2 (L.setIfInBounds i true) x:=by
 unfold lst2;rw [zcl (by simp;omega),zcl h]
theorem zov :(lst2 L x).setIfInBounds L.size true=lst2 L true:=by
 unfold lst2;rw [zcl (by simp),zdX]
theorem zme (h:i<H.length):((H++[oA])++[oS]).toArray[i]? = H.toArray[i]? :=by
 simp [List.getElem?_append_left h]
theorem zAf:((H++[oA])++[oS]).toArray[H.length]? = some oA:=by simp
theorem duo_s:((H++[oA])++[oS]).toArray[H.length+1]? = some oS:=by simp
theorem zuh (hO:ownB md H N dA=true) (hs:L.size=H.length)  (h:i<H.length) (k:i ∈ Region.ready md ((H++[oA])++[oS]).toArray (lst2 L x)):i ∈ Region.ready md H.toArray L:=by
 obtain ⟨u,o,ho,hall⟩:=mem_ready.1 k;rw [zme h] at ho;have ho':H[i]? = some o:=by simpa using ho
 rw [zfH (by omega)] at u
 exact mem_ready.2 ⟨u,o,ho,fun e he hb=>by
  have h1:=(zca hO ho').2.2.2.1 e he hb;have h2:=hall e he hb
  rwa [zfH (by omega)] at h2⟩
theorem zAg (hO:ownB md H N dA=true) (hs:L.size=H.length)  (k:i ∈ Region.ready md H.toArray L):i ∈ Region.ready md ((H++[oA])++[oS]).toArray (lst2 L x):=by
 obtain ⟨u,o,ho,hall⟩:=mem_ready.1 k;have ho':H[i]? = some o:=by simpa using ho
 have h:i<H.length:=by
  rcases Nat.lt_or_ge i H.length with k|k
  ·exact k
  ·rw [List.getElem?_eq_none k] at ho';cases ho'
 exact mem_ready.2 ⟨by rw [zfH (by omega)];exact u,o,by rw [zme h];exact ho,fun e he hb=>by
  have h1:=(zca hO ho').2.2.2.1 e he hb;rw [zfH (by omega)]
  exact hall e he hb⟩
theorem zui (hO:ownB md H N dA=true) (hs:L.size=H.length) (h:zcJ md H L)  (hi:i ∈ Region.ready md H.toArray L):zcJ md H (L.setIfInBounds i true):=by
 obtain ⟨u,o,ho,hall⟩:=mem_ready.1 hi;have ho':H[i]? = some o:=by simpa using ho
 have more:∀j,L.getD j true=true→(L.setIfInBounds i true).getD j true=true:=by
  intro j hj
  by_cases e:i=j
  ·subst e;rcases Nat.lt_or_ge i L.size with k|k
   ·rw [Array.getD_eq_getD_getElem?,Array.getElem?_setIfInBounds_self_of_lt k];rfl
   ·rw [Array.getD_eq_getD_getElem?,Array.getElem?_eq_none (by simpa using k)];rfl
  ·rwa [getD_set_ne true e]
 intro j p hp hj e he hb
 by_cases eij:i=j
 ·subst eij;obtain rfl:o=p:=Option.some.inj (ho'.symm.trans hp);have hl:=(zca hO ho').2.2.2.1 e he hb;have hi:i<H.length:=by
   rcases Nat.lt_or_ge i H.length with k|k
   ·exact k
   ·rw [List.getElem?_eq_none k] at ho';cases ho'
  have k:=hall e he hb;rw [zaY (by omega) false true] at k;exact more _ k
 ·rw [getD_set_ne true eij] at hj;exact more _ (h j p hp hj e he hb)
def zkS (md:Region.Mode) (H:List Oper) (oA oS:Oper) (dA:Tmp):Bool:=
 (oA.guard.isNone&&decide (oA.dst=some dA)&&oA.after.isEmpty)&&(oS.after.all (fun e=>decide (e.on<H.length+1))&&oS.after.any (fun e=>Region.binds md e&&e.on==H.length)) &&
 (List.range H.length).all fun i=>oS.after.any (fun e=>Region.binds md e&&e.on==i)||(List.range H.length).any fun j=>match H[j]? with|some o=>o.after.any (fun e=>Region.binds md e&&e.on==i)|none=>false
theorem zhO (h:zkS md H oA oS dA=true):
  (oA.guard=none∧oA.dst=some dA∧oA.after=#[])∧(∀e ∈ oS.after,e.on<H.length+1)∧(∃e ∈ oS.after,Region.binds md e=true∧e.on=H.length) ∧
   ∀i,i<H.length→(∃e ∈ oS.after,Region.binds md e=true∧e.on=i)∨∃(j:Nat) (x:Oper),H[j]? = some x∧∃e ∈ x.after,Region.binds md e=true∧e.on=i:=by
 unfold zkS at h;simp only [Bool.and_eq_true,Option.isNone_iff_eq_none,decide_eq_true_eq,Array.isEmpty_iff] at h;obtain ⟨⟨⟨⟨a1,a2⟩,a3⟩,s1,s2⟩,s4⟩:=h;refine ⟨⟨a1,a2,a3⟩,fun e he=>?_,zja s2,fun i hi=>?_⟩
 ·simpa using Array.all_eq_true'.1 s1 e he
 ·have k:=List.all_eq_true.1 s4 i (List.mem_range.2 hi);rw [Bool.or_eq_true] at k;rcases k with k|k
  ·exact .inl (zja k)
  ·obtain ⟨j,hj,k4⟩:=List.any_eq_true.1 k;split at k4
   ·rename_i o ho;exact .inr ⟨j,o,ho,zja k4⟩
   ·cases k4
def zxG:Option (Nat×Array Value)→Nat
 |none=>1
 |some _=>0
theorem zqC (hs:L.size=H.length) (k:i ∈ Region.ready md ((H++[oA])++[oS]).toArray (lst2 L x)):i<H.length∨(i=H.length∧x=false)∨i=H.length+1:=by
 obtain ⟨u,o,ho,_⟩:=mem_ready.1 k;have h3:i<H.length+2:=by simpa using (Array.getElem?_eq_some_iff.1 ho).1
 rcases Nat.lt_or_ge i H.length with h|h
 ·exact .inl h
 ·by_cases e:i=H.length
  ·subst e;rw [←hs,zqB] at u;exact .inr (.inl ⟨rfl,u⟩)
  ·exact .inr (.inr (by omega))
theorem zqD (hO:ownB md H N dA=true) (hT:zkS md H oA oS dA=true) (hs:L.size=H.length) (hsh:zcJ md H L) (k:H.length+1 ∈ Region.ready md ((H++[oA])++[oS]).toArray (lst2 L x)):x=true∧∀i,i<H.length→L.getD i true=true:=by
 obtain ⟨_,hl,⟨eA,hA,bA,nA⟩,hr⟩:=zhO hT;obtain ⟨u,o,ho,hall⟩:=mem_ready.1 k;rw [duo_s] at ho;cases ho
 have kA:=hall eA hA bA;rw [nA,←hs,zqB] at kA;refine ⟨kA,fun i hi=>zmW (o:=oS) hr (fun i x hx=>⟨(zca hO hx).1,(zca hO hx).2.2.2.1⟩) hsh (fun e he hb=>?_) H.length i hi (by omega)⟩;have k1:=hall e he hb;have:=hl e he
 by_cases q:e.on<H.length
 ·rw [zfH (by omega),zaY (by omega) false true] at k1;exact k1
 ·rw [Array.getD_eq_getD_getElem?,Array.getElem?_eq_none (by omega)];rfl
theorem zuj (hO:ownB md H N dA=true) (hT:zkS md H oA oS dA=true)
  (hA:∀(a:Act) (w:World),(execOp a.eval oA).run P w=.ok (.value (.pointer (some ⟨w.heap.size,0,none⟩))) (w.alloc (.cells zA tA)))
  (hEnd:∀g w,inS wa tA (some (g,zA)) w→wpList P ((H++[oA])++[oS]).toArray Q [oS] (actS dA (some (g,zA)) A1) w):
  ∀(n fuel:Nat) (s:Option (Nat×Array Value)) (L:Array Bool) (a:Act) (w:World),n=fuel+zxG s→(∀p,s=some p→p.2=zA)→L.size=H.length→a.tmps.size=N→zcJ md H L→inS wa tA s w→Fam P md H A1 wa fuel L a →
   wpAny P md ((H++[oA])++[oS]).toArray Q (n+1) (lst2 L s.isSome) (actS dA s a) w:=by
 obtain ⟨⟨a1,a2,a3⟩,sS,_,_⟩:=zhO hT;intro n
 induction n using Nat.strongRecOn with
 |_ n ih=>
  intro fuel s L a w hn h1 hs hN hsh hin hF
  by_cases done:Region.ready md H.toArray L=[]∧s.isSome=true
  ·obtain ⟨e,q1⟩:=done;obtain ⟨⟨g,z⟩,rfl⟩:=Option.isSome_iff_exists.1 q1;obtain rfl:z=zA:=h1 _ rfl;have hall:=zhx hO hs e;have hA1:=zmd hF e;subst hA1
   exact zdt (H:=H++[oA]) (by simpa using sS) (L:=L.push true) (by simp [hs]) (fun i hi=>by
    have hi':i<H.length+1:=by simpa using hi
    by_cases k1:i<H.length
    ·rw [zaT (by omega)];exact hall i k1
    ·have k2:i=L.size:=by omega
     subst k2
     exact zdV _ _) (hEnd g w hin) n
  ·have npos:∃m,n=m+1:=by
    by_cases e:Region.ready md H.toArray L=[]
    ·cases s with
     |none=>exact ⟨fuel,by rw [hn];simp only [zxG]⟩
     |some p=>exact absurd ⟨e,rfl⟩ done
    ·obtain ⟨i0,hi0⟩:=List.exists_mem_of_ne_nil _ e;obtain ⟨f,rfl⟩:=zhy hF hi0;exact ⟨f+zxG s,by omega⟩
   obtain ⟨m,rfl⟩:=npos;refine ⟨fun e1=>?_,fun i hi=>?_⟩
   ·exfalso
    by_cases e:Region.ready md H.toArray L=[]
    ·cases s with
     |none=>
      have:H.length ∈ Region.ready md ((H++[oA])++[oS]).toArray (lst2 L (none:Option (Nat×Array Value)).isSome):=mem_ready.2 ⟨by rw [←hs];exact zqB true,oA,zAf,fun e he hb=>by rw [a3] at he;simp at he⟩;rw [e1] at this;cases this
     |some p=>exact done ⟨e,rfl⟩
    ·obtain ⟨i0,hi0⟩:=List.exists_mem_of_ne_nil _ e;have:=zAg (oA:=oA) (oS:=oS) (x:=s.isSome) hO hs hi0;rw [e1] at this;cases this
   ·rcases zqC hs hi with h|⟨h,hx⟩|h
    ·have hr:=zuh hO hs h hi;obtain ⟨u,o,ho,_⟩:=mem_ready.1 hr;have ho':H[i]? = some o:=by simpa using ho
     obtain ⟨f,rfl⟩:=zhy hF hr;refine zhw hO hr ho' (by rw [zme h];exact ho) hF hN hin fun v w' hin' hF'=>?_
     rw [zug (by omega)];exact ih m (by omega) f s _ _ w' (by omega) h1 (by simpa using hs) (by rw [zhv];exact hN) (zui hO hs hsh hr) hin' hF'
    ·subst h;have hs1:s=none:=by cases s with|none=>rfl|some p=>cases hx
     subst hs1;unfold wpOp;rw [zAf];simp only [Region.wanted,a1,if_true];refine .inl ?_;unfold Oper.wp;rw [hA];show wpAny P md _ Q (m+1) ((lst2 L false).setIfInBounds H.length true) (a.put oA.dst _) (w.alloc _);rw [a2,←hs,zov];have hin':Below wa.heap.size wa w:=hin;have hlt:=hin'.size;have hb:Below w.heap.size w (w.alloc (.cells zA tA)):=(Below.refl _ w).alloc (Nat.le_refl _) _;exact ih m (by omega) fuel (some (w.heap.size,zA)) L a _ (by have hn':m+1=fuel+1:=hn;show m=fuel+0;omega) (fun p e=>by cases e;rfl) hs hN hsh ⟨zaz hin' hb,heap_alloc_new _ _,hlt⟩ hF
    ·subst h;exfalso;obtain ⟨x1,x3⟩:=zqD hO hT hs hsh hi;refine done ⟨?_,x1⟩;apply List.eq_nil_iff_forall_not_mem.2;intro j hj;obtain ⟨u,o,ho,_⟩:=mem_ready.1 hj;have hj':j<H.length:=by simpa using (Array.getElem?_eq_some_iff.1 ho).1
     rw [x3 j hj'] at u;cases u
theorem zbW {id:Nat} {a:Act} {w:World} {l:List Oper} (H:List Oper) (oA oS:Oper) (hl:l=(H++[oA])++[oS]) (zA:Array Value) (tA:TypeId) (N:Nat) (dA:Tmp) (hm:P.follows .mixedOrders=true) (hLex:Region.lexB .any H.toArray=true)
  (hO:ownB .any H N dA=true) (hT:zkS .any H oA oS dA=true) (hN:a.tmps.size=N)
  (hA:∀(a:Act) (w:World),(execOp a.eval oA).run P w=.ok (.value (.pointer (some ⟨w.heap.size,0,none⟩))) (w.alloc (.cells zA tA)))
  (h:∃A1:Act,(∀W,Below w.heap.size w W→wpQuiet P H.toArray (fun w'=>∃x:Kept W,w'=x.val) (fun a'=>a'=A1) H a) ∧
   ∀g w',Below w.heap.size w w'→w'.heap[g]? = some (.cells zA tA (0,0))→w.heap.size≤g→wpList P l.toArray Q [oS] (A1.put (some dA) (.pointer (some ⟨g,0,none⟩))) w'):(Code.region id l.toArray true).wp P Q a w:=by
 obtain ⟨A1,hW,hEnd⟩:=h;subst hl;simp only [Region.lexB,Bool.and_eq_true] at hLex;refine wp_region_any hm ?_;have bd:Below w.heap.size w { w with drawn:=w.drawn+1 }:=(Below.refl _ w).drew;have hF:Fam P .any H A1 { w with drawn:=w.drawn+1 } H.length (Array.replicate H.toArray.size false) a:=fun W hW'=>
  wpAnyQ_lex (C:=KC W) (md:=.any) hLex.1 H 0 (Array.replicate H.toArray.size false) a (by simp) (by simpa using hLex.2) (hW W (bd.trans hW'))
 have hsh:zcJ .any H (Array.replicate H.toArray.size false):=fun i o ho hi=>by
  have hi':i<H.length:=by
   rcases Nat.lt_or_ge i H.length with k|k
   ·exact k
   ·rw [List.getElem?_eq_none k] at ho;cases ho
  rw [Array.getD_eq_getD_getElem?,Array.getElem?_replicate,if_pos (by simpa using hi')] at hi;cases hi
 have k:=zuj (Q:=Q) (wa:={ w with drawn:=w.drawn+1 }) (zA:=zA) hO hT hA (fun g w' hi=>hEnd g w' (bd.trans hi.1) hi.2.1 hi.2.2) (H.length+1) H.length none (Array.replicate H.toArray.size false) a _ rfl (fun _ e=>by cases e) (by simp) hN hsh (Below.refl _ _) hF;have e:lst2 (Array.replicate H.toArray.size false) false=Array.replicate ((H++[oA])++[oS]).toArray.size false:=by
  unfold lst2;simp [Array.replicate_succ]
 have k:wpAny P .any ((H++[oA])++[oS]).toArray Q (H.length+1+1) (lst2 (Array.replicate H.toArray.size false) false) a { w with drawn:=w.drawn+1 }:=k;rw [e] at k
 simpa using k
end Go.Proofs.YtdiidjehdginnaaGreatDoor
namespace Go.Proofs.YtdiidjehdginnaaGreatDoor
set_option maxRecDepth 20000
open Go.RowKit
set_option linter.unusedVariables false
variable {P:Program} {md:Region.Mode} {Q:Exit→Act→World→Prop} {ops:Array Oper} {A1:Act} {wa:World}
variable {R T:List Oper} {oA o1:Oper} {N:Nat} {dA:Tmp} {vA:Nat→Value} {t:TypeId} {row:Array Value}
end Go.Proofs.YtdiidjehdginnaaGreatDoor
namespace Go.Proofs.YtdiidjehdginnaaGreatDoor
set_option maxRecDepth 20000
open Go.RowKit
variable {F:(Nat→Value)→Act} {a:Act} {L:Array Bool} {Q:Exit→Act→World→Prop} {v:Int} {bs:List Int} {l rest:List Oper} {B b g i id:Nat} {u:Nat→Value} {R:Nat→Value→World→Prop} {o:Oper} {P:Program} {T t:TypeId} {W w w' wa:World}
theorem zaG {fn:Func} {p u:Tmp} {ty:TypeId} (h:fn.results=#[.cell p ty,.tmp u]) (tmps:Array Value) (w:World) (g:Nat) (t:TypeId) (cs:Array Value) (fr:Nat×Nat) (d:TypeDesc)
  (hp:tmps.getD p undef=.pointer (some ⟨g,0,none⟩)) (hg:w.heap[g]? = some (.cells cs t fr))
  (hu:P.underlying ty=some d) (hd:(match d with|.struct _|.array _ _=>true|_=>false)=true) (hi:(P.info? ty).map (·.size)=some cs.size):
  (results fn tmps).run P w=.ok (.tuple #[.agg cs,tmps.getD u undef]) w:=by
 rw [results_cell_tmp h,hp];simp [asAddr,Result.andThen,run_loadVar_row w g t ty cs fr d hg hu hd hi]
def Box (t:TypeId) (w:World) (b:Nat) (v:Int):Prop:=w.heap[b]? = some (.cells #[.int .i64 v] t (0,0))
theorem Box.cell (h:Box t w b v):w.cell? ⟨b,0,none⟩=some (.int .i64 v):=cell_of_one h
theorem Box.below (h:Box t w b v) (k:Below B w w') (hb:b<B):Box t w' b v:=(k.block b hb).trans h
theorem Box.lt (h:Box t w b v):b<w.heap.size:=lt_of_block h
theorem Box.next (h:Box t w b v) (k:Below w.heap.size w w'):Box t w' b v:=h.below k h.lt
set_option linter.unusedVariables false
theorem under_name {c:Code} (h:∀wa,wa=w→Code.wp P c Q a wa):Code.wp P c Q a w:=h w rfl
theorem zfx {f:FuncId} {args:Array Value} {Q:Ending→World→Prop} (h:∀u,u=w→Calls P f args u Q):Calls P f args w Q:=h w rfl
theorem zaj {ops:Array Oper} (h:∀u,u=w→wpList P ops Q rest a u):wpList P ops Q rest a w:=h w rfl
theorem zjb {K:Act→World→Prop} {e:Exit}   (h:∀wa,wa=w→Exit.then K Q e a wa):Exit.then K Q e a w:=h w rfl
theorem two_named {o0 o1:Obj} (h:wa=(w.alloc o0).alloc o1):
  wa.heap[w.heap.size]? = some o0∧wa.heap[w.heap.size+1]? = some o1∧w.heap.size+1<wa.heap.size∧Below w.heap.size w wa:=by
 have e:wa.heap=(w.heap.push o0).push o1:=by rw [h];rfl
 refine ⟨?_,?_,?_,?_⟩
 ·rw [e,Array.getElem?_push,if_neg (by simp),Array.getElem?_push,if_pos rfl]
 ·rw [e,Array.getElem?_push,if_pos (by simp)]
 ·rw [e];simp
 ·rw [h];exact ((Below.refl _ w).alloc (Nat.le_refl _) _).alloc (by simp) _
theorem zfy {o0 o1 o2:Obj} (h:wa=((w.alloc o0).alloc o1).alloc o2):
  wa.heap[w.heap.size]? = some o0∧wa.heap[w.heap.size+1]? = some o1∧wa.heap[w.heap.size+2]? = some o2∧wa.heap.size=w.heap.size+3∧Below w.heap.size w wa:=by
 have e:wa.heap=((w.heap.push o0).push o1).push o2:=by rw [h];rfl
 refine ⟨?_,?_,?_,?_,?_⟩
 ·rw [e,Array.getElem?_push,if_neg (by simp;omega),Array.getElem?_push,if_neg (by simp),Array.getElem?_push,if_pos rfl]
 ·rw [e,Array.getElem?_push,if_neg (by simp),Array.getElem?_push,if_pos (by simp)]
 ·rw [e,Array.getElem?_push,if_pos (by simp)]
 ·rw [e];simp
 ·rw [h];exact (((Below.refl _ w).alloc (Nat.le_refl _) _).alloc (by simp) _).alloc (by simp;omega) _
theorem zjc {o0 o1 o2 o3:Obj} (h:wa=(((w.alloc o0).alloc o1).alloc o2).alloc o3):
  wa.heap[w.heap.size]? = some o0∧wa.heap[w.heap.size+1]? = some o1∧wa.heap[w.heap.size+2]? = some o2∧wa.heap[w.heap.size+3]? = some o3∧wa.heap.size=w.heap.size+4∧Below w.heap.size w wa:=by
 obtain ⟨a0,a1,a2,a3,a4⟩:=zfy (w:=w) (o0:=o0) (o1:=o1) (o2:=o2) rfl;have k:Below (((w.alloc o0).alloc o1).alloc o2).heap.size (((w.alloc o0).alloc o1).alloc o2) wa:=by rw [h];exact (Below.refl _ _).alloc (Nat.le_refl _) _
 refine ⟨(k.block _ (lt_of_block a0)).trans a0,(k.block _ (lt_of_block a1)).trans a1,(k.block _ (lt_of_block a2)).trans a2,?_,?_,zaz a4 k⟩
 ·rw [h,←a3];exact heap_alloc_new _ _
 ·rw [h,show ((((w.alloc o0).alloc o1).alloc o2).alloc o3).heap.size=(((w.alloc o0).alloc o1).alloc o2).heap.size+1 by simp,a3]
def IsRow (k:IntKind) (w:World) (a:Option Addr) (len cap:Nat) (zs:List Int):Prop:=
 (a=none∧len=0∧cap=0∧zs=[])∨∃x,a=some x∧len≤cap∧cap≤maxLen∧zs.length=cap∧(∀i,i<zs.length→w.cell? (x.add i)=some (.int k (zs.getD i 0)))∧∀n ∈ zs,(Lit.int k n).wf=true
theorem zfz {a:Addr} {v:Value} (h:w.cell? a=some v):a.block<w.heap.size:=by
 rcases Nat.lt_or_ge a.block w.heap.size with k|k
 ·exact k
 ·simp [World.cell?,Array.getElem?_eq_none k] at h
theorem IsRow.cells {k:IntKind} {a:Option Addr} {len cap:Nat} {zs:List Int} (h:IsRow k w a len cap zs) (hl:0<len):
  ∃b off,a=some ⟨b,off,none⟩∧b<w.heap.size∧len≤cap∧cap≤maxLen∧∀i,i<len→w.cell? ⟨b,off+i,none⟩=some (.int k (zs.getD i 0))∧(Lit.int k (zs.getD i 0)).wf=true:=by
 rcases h with ⟨rfl,rfl,rfl,rfl⟩|⟨x,rfl,h1,h2,h3,h4,h5⟩
 ·omega
 ·have c0:=h4 0 (by omega);have e0:x.add 0=x:=rfl;rw [e0] at c0;have hs:=World.cell?_spot c0;obtain ⟨b,off,sp⟩:=x;simp only at hs;subst hs;refine ⟨b,off,rfl,zfz c0,h1,h2,fun i hi=>⟨?_,?_⟩⟩
  ·have:=h4 i (by omega);rw [←this]
   congr 1
   unfold Addr.add;split<;>simp_all
  ·have hi':i<zs.length:=by omega
   refine h5 _ ?_;rw [List.getD_eq_getElem?_getD,List.getElem?_eq_getElem hi'];exact List.getElem_mem hi'
def Bytes (T:TypeId) (w:World) (g:Nat) (bs:List Int):Prop:=w.heap[g]? = some (.cells (bs.map (Value.int .u8)).toArray T (0,0))∧∀z ∈ bs,0≤z∧z<256
theorem Bytes.lt (h:Bytes T w g bs):g<w.heap.size:=by
 rcases Nat.lt_or_ge g w.heap.size with k|k
 ·exact k
 ·have:=h.1;rw [Array.getElem?_eq_none k] at this;cases this
theorem Bytes.below (h:Bytes T w g bs) (b:Below B w w') (hB:g<B):Bytes T w' g bs:=⟨(b.block g hB).trans h.1,h.2⟩
theorem Bytes.next (h:Bytes T w g bs) (b:Below w.heap.size w w'):Bytes T w' g bs:=h.below b h.lt
theorem Bytes.cell (h:Bytes T w g bs) (i:Nat) (hi:i<bs.length):
  w.cell? ⟨g,i,none⟩=some (.int .u8 (bs.getD i 0))∧0≤bs.getD i 0∧bs.getD i 0<256:=by
 rw [cell_of_row w g i _ T (0,0) h.1,List.getD_eq_getElem?_getD,List.getElem?_eq_getElem hi];refine ⟨by simp [hi],?_⟩;exact h.2 _ (List.getElem_mem hi)
theorem Bytes.free (h:Bytes T w g bs) (i:Nat):w.frozen? ⟨g,i,none⟩=false:=by
 simp [World.frozen?,h.1]
theorem Bytes.put (h:Bytes T w g bs) (i:Nat) (v:Int) (hv:0≤v∧v<256):
  Bytes T (w.setCell ⟨g,i,none⟩ (.int .u8 v)) g (bs.set i v):=by
 refine ⟨?_,?_⟩
 ·rw [heap_setCell_same w g i _ T _ h.1];simp
 ·intro z hz;rcases List.mem_or_eq_of_mem_set hz with hz|rfl
  ·exact h.2 z hz
  ·exact hv
theorem zow {e:TypeId} {i:TypeInfo} (ht:P.underlying t=some (.slice e)) (hi:P.info? e=some i) (hz:i.zero=some (.int .u8 0)) (hs:i.size=1) (hb:i.bytes=1)
  (n:Nat) (hn:n≤281474976710656) (w:World):
  (Instr.makeSlice t (.int .i64 (n:Int)) (.int .i64 (n:Int))).run P w=.ok (.slice (some ⟨w.heap.size,0,none⟩) n n) (w.alloc (.cells ((List.replicate n (0:Int)).map (Value.int .u8)).toArray e)):=by
 rw [Go.run_make w t e i (.int .u8 0) ht hi hz .i64 .i64 n n (by omega) (by omega) (by rw [hb];omega) (by omega)];have e1:madeCells (Value.cells (.int .u8 0)) (n*i.size)=((List.replicate n (0:Int)).map (Value.int .u8)).toArray:=by
  rw [hs,Nat.mul_one];apply Array.toList_inj.1;show (madeCells #[.int .u8 0] n).toList=_;rw [toList_madeCells_one];simp
 simp only [Int.toNat_natCast,e1]
theorem Bytes.made {n:Nat}:Bytes T (w.alloc (.cells ((List.replicate n (0:Int)).map (Value.int .u8)).toArray T)) w.heap.size (List.replicate n 0):=
 ⟨heap_alloc_new w _,fun z hz=>by rw [List.eq_of_mem_replicate hz];omega⟩
variable {P:Program} {md:Region.Mode} {Q:Exit→Act→World→Prop}
def zaA (a:Act):List Oper→Nat→(Nat→Value)→Act
 |[],_,_=>a
 |o::rest,k,u=>zaA (a.put o.dst (u k)) rest (k+1) u
def updV (u:Nat→Value) (i:Nat) (v:Value):Nat→Value:=fun j=>if j=i then v else u j
theorem put_comm (a:Act) {d d':Option Tmp} (h:∀x,d=some x→d'=some x→False) (v v':Value):(a.put d v).put d' v'=(a.put d' v').put d v:=by
 cases d with
 |none=>rfl
 |some x=>
  cases d' with
  |none=>rfl
  |some y=>
   have e:x≠y:=fun k=>h x rfl (by rw [k])
   show ({ a with tmps:=(a.tmps.setIfInBounds x v).setIfInBounds y v' }:Act)={ a with tmps:=(a.tmps.setIfInBounds y v').setIfInBounds x v };rw [Array.setIfInBounds_comm _ _ e]
theorem zqE (a:Act) (d:Option Tmp) (v v':Value):(a.put d v).put d v'=a.put d v':=by
 cases d with
 |none=>rfl
 |some x=>
  show ({ a with tmps:=(a.tmps.setIfInBounds x v).setIfInBounds x v' }:Act)={ a with tmps:=a.tmps.setIfInBounds x v' };simp
theorem zjK (a:Act) (d:Option Tmp) (v:Value) (h:∀x,d=some x→v=a.tmps.getD x undef):a.put d v=a:=by
 cases d with
 |none=>rfl
 |some x=>
  rw [h x rfl];show ({ a with tmps:=a.tmps.setIfInBounds x (a.tmps.getD x undef) }:Act)=a;have e:a.tmps.setIfInBounds x (a.tmps.getD x undef)=a.tmps:=by
   apply Array.ext_getElem?;intro j;rw [Array.getElem?_setIfInBounds];split
   ·rename_i k;subst k;split
    ·rename_i k;simp [k]
    ·rename_i k;rw [Array.getElem?_eq_none (by omega)]
   ·rfl
  rw [e]
theorem zjd {u':Nat→Value}:∀(l:List Oper) (a:Act) (k:Nat),(∀j,k≤j→u j=u' j)→zaA a l k u=zaA a l k u'
 |[],_,_,_=>rfl
 |o::rest,a,k,h=>by
  show zaA (a.put o.dst (u k)) rest (k+1) u=zaA (a.put o.dst (u' k)) rest (k+1) u';rw [h k (Nat.le_refl _)];exact zjd rest _ _ fun j hj=>h j (by omega)
theorem zhP (d:Option Tmp) (v:Value) (u:Nat→Value):∀(l:List Oper) (a:Act) (k:Nat),(∀o ∈ l,∀x,o.dst=some x→d=some x→False)→(zaA a l k u).put d v=zaA (a.put d v) l k u
 |[],_,_,_=>rfl
 |o::rest,a,k,h=>by
  show (zaA (a.put o.dst (u k)) rest (k+1) u).put d v=zaA ((a.put d v).put o.dst (u k)) rest (k+1) u;rw [zhP d v u rest _ _ (fun p hp=>h p (List.mem_cons_of_mem _ hp)),put_comm _ (fun x e1 e2=>h o (List.mem_cons_self ..) x e1 e2)]
def zdL:List Oper→Bool
 |[]=>true
 |o::rest=>rest.all (fun p=>match o.dst,p.dst with|some x,some y=>x != y|_,_=>true)&&zdL rest
theorem zhQ (h:zdL (o::rest)=true):(∀p ∈ rest,∀x,p.dst=some x→o.dst=some x→False)∧zdL rest=true:=by
 simp only [zdL,Bool.and_eq_true] at h;refine ⟨fun p hp x e1 e2=>?_,h.2⟩;have k:=List.all_eq_true.1 h.1 p hp;simp [e1,e2] at k
theorem zdM (v:Value):∀(l:List Oper) (a:Act) (k i:Nat) (o:Oper) (u:Nat→Value),zdL l=true→l[i]? = some o→(zaA a l k u).put o.dst v=zaA a l k (updV u (k+i) v)
 |[],_,_,_,_,_,_,h=>by cases h
 |p::rest,a,k,0,o,u,hs,h=>by
  obtain rfl:p=o:=by simpa using h
  have e:zaA a (p::rest) k (updV u (k+0) v)=zaA (a.put p.dst v) rest (k+1) (updV u (k+0) v):=by
   show zaA (a.put p.dst (updV u (k+0) v k)) rest (k+1) _=_;have e2:updV u (k+0) v k=v:=by unfold updV;rw [if_pos (by omega)]
   rw [e2]
  rw [e,zjd rest _ _ (u':=u) (fun j hj=>by unfold updV;rw [if_neg (by omega)])];show (zaA (a.put p.dst (u k)) rest (k+1) u).put p.dst v=_;rw [zhP _ _ _ _ _ _ (fun q hq x e1 e2=>(zhQ hs).1 q hq x e1 e2),zqE]
 |p::rest,a,k,i+1,o,u,hs,h=>by
  have h':rest[i]? = some o:=by simpa using h
  have e:zaA a (p::rest) k (updV u (k+(i+1)) v)=zaA (a.put p.dst (u k)) rest (k+1) (updV u (k+1+i) v):=by
   show zaA (a.put p.dst (updV u (k+(i+1)) v k)) rest (k+1) (updV u (k+(i+1)) v)=_;have e2:updV u (k+(i+1)) v k=u k:=by unfold updV;rw [if_neg (by omega)]
   rw [e2,show k+(i+1)=k+1+i by omega]
  rw [e];exact zdM v rest _ (k+1) i o u (zhQ hs).2 h'
def zfl (md:Region.Mode) (l:List Oper):Bool:=(List.range l.length).all fun i=>match l[i]? with|some o=>o.after.all (fun e=>!Region.binds md e||decide (e.on<i))|none=>true
theorem zcY (h:zfl md l=true) (ho:l[i]? = some o):∀e ∈ o.after,Region.binds md e=true→e.on<i:=by
 intro e he hb;have hi:i<l.length:=by
  rcases Nat.lt_or_ge i l.length with k|k
  ·exact k
  ·rw [List.getElem?_eq_none k] at ho;cases ho
 have k:=List.all_eq_true.1 h i (List.mem_range.2 hi);simp only [ho] at k;have k2:=Array.all_eq_true'.1 k e he;simp [hb] at k2;exact k2
theorem zeQ (hA:zfl md l=true) (h:Region.ready md l.toArray L=[]) (hs:L.size=l.length):∀i,i<l.length→L.getD i true=true:=by
 intro i
 induction i using Nat.strongRecOn with
 |_ i ih=>
  intro hi;cases k:L.getD i true with
  |true=>rfl
  |false=>
   have:i ∈ Region.ready md l.toArray L:=mem_ready.2 ⟨k,l[i],by simp,fun e he hb=>by
    have h1:=zcY hA (show l[i]? = some l[i] by simp) e he hb;have h2:=ih e.on h1 (by omega);rw [zaY (by omega) false true]
    exact h2⟩
   rw [h] at this;cases this
def zjL (md:Region.Mode) (R:Nat→Value→World→Prop) (u:Nat→Value) (w:World):List Edge→Prop
 |[]=>True
 |e::rest=>(match Region.binds md e with|true=>R e.on (u e.on) w|false=>True)∧zjL md R u w rest
theorem zgA :∀es:List Edge,(∀e ∈ es,Region.binds md e=true→R e.on (u e.on) w)→zjL md R u w es
 |[],_=>trivial
 |e::rest,h=>by
  refine ⟨?_,zgA rest fun x hx=>h x (List.mem_cons_of_mem _ hx)⟩;cases hb:Region.binds md e with
  |true=>exact h e (List.mem_cons_self ..) hb
  |false=>trivial
def zfI (A:Act) (d:Option Tmp) (R:Value→World→Prop) (w:World) (x:Exit) (a':Act) (w':World):Prop:=∃v,x=.normal∧a'=A.put d v∧R v w'∧Below w.heap.size w w'
theorem zaa {A:Act} {d:Option Tmp} {R:Value→World→Prop} {a':Act}  (v:Value) (h:a'=A.put d v) (r:R v w') (b:Below w.heap.size w w'):zfI A d R w .normal a' w':=⟨v,rfl,h,r,b⟩
def zwK (P:Program) (md:Region.Mode) (l:List Oper) (F:(Nat→Value)→Act) (W:World) (R:Nat→Value→World→Prop) (i:Nat) (o:Oper):Prop:=
 ∀(u:Nat→Value) (w:World),Below W.heap.size W w→zjL md R u w o.after.toList→wpList P l.toArray (zfI (F u) o.dst (R i) w) [o] (F u) w
def zcm (P:Program) (md:Region.Mode) (l:List Oper) (F:(Nat→Value)→Act) (W:World) (R:Nat→Value→World→Prop):Nat→List Oper→Prop
 |_,[]=>True
 |i,o::rest=>zwK P md l F W R i o∧zcm P md l F W R (i+1) rest
theorem zcb :zcm P md l F W R i []:=trivial
theorem zab 
 (h:∀(u:Nat→Value) (w:World),Below W.heap.size W w→zjL md R u w o.after.toList→wpList P l.toArray (zfI (F u) o.dst (R i) w) [o] (F u) w)
 (k:zcm P md l F W R (i+1) rest):zcm P md l F W R i (o::rest):=⟨h,k⟩
theorem zjM :∀(rest:List Oper) (k i:Nat) (o:Oper),zcm P md l F W R k rest→rest[i]? = some o→zwK P md l F W R (k+i) o
 |[],_,_,_,_,h=>by cases h
 |p::rest,k,0,o,hs,h=>by
  obtain rfl:p=o:=by simpa using h
  exact hs.1
 |p::rest,k,i+1,o,hs,h=>by
  have h':rest[i]? = some o:=by simpa using h
  rw [show k+(i+1)=k+1+i by omega];exact zjM rest (k+1) i o hs.2 h'
def zeR (R:Nat→Value→World→Prop) (u:Nat→Value) (w:World):Nat→List Oper→Prop
 |_,[]=>True
 |i,_::rest=>R i (u i) w∧zeR R u w (i+1) rest
theorem zdZ :∀(rest:List Oper) (k:Nat),(∀i,i<rest.length→R (k+i) (u (k+i)) w)→zeR R u w k rest
 |[],_,_=>trivial
 |o::rest,k,h=>⟨h 0 (by simp),zdZ rest (k+1) fun i hi=>by rw [show k+1+i=k+(i+1) by omega];exact h (i+1) (by simpa using hi)⟩
def zch (L:Array Bool):Nat:=(L.toList.filter fun b=>!b).length
theorem zcC (h:L.getD i true=false):zch L=zch (L.setIfInBounds i true)+1:=by
 have hi:i<L.size:=by
  rcases Nat.lt_or_ge i L.size with k|k
  ·exact k
  ·rw [Array.getD_eq_getD_getElem?,Array.getElem?_eq_none k] at h;cases h
 have hv:L.toList[i]'(by simpa using hi)=false:=by
  rw [Array.getD_eq_getD_getElem?,Array.getElem?_eq_getElem hi] at h
  simpa using h
 unfold zch;rw [Array.toList_setIfInBounds];have aux:∀(xs:List Bool) (i:Nat) (hi:i<xs.length),xs[i]=false→(xs.filter fun b=>!b).length=((xs.set i true).filter fun b=>!b).length+1:=by
  intro xs
  induction xs with
  |nil=>intro i hi;cases hi
  |cons x xs ih=>
   intro i hi he;cases i with
   |zero=>
    have:x=false:=by simpa using he
    subst this;simp
   |succ i=>
    have k:=ih i (by simpa using hi) (by simpa using he);cases x with
    |true=>simpa using k
    |false=>simp only [List.set_cons_succ,List.filter_cons,Bool.not_false,if_true,List.length_cons];omega
 exact aux _ _ _ hv
theorem zbI (h:zch L=0) (i:Nat):L.getD i true=true:=by
 cases k:L.getD i true with
 |true=>rfl
 |false=>have:=zcC k;omega
theorem zjN {K K':Act→World→Prop} {Q':Exit→Act→World→Prop} (h:∀a w,K a w→K' a w) (hq:∀x a w,x≠.normal→Q x a w→Q' x a w) (hh:o.wp P a w K Q):o.wp P a w K' Q':=by
 unfold Oper.wp at *;generalize (execOp a.eval o).run P w=r at *;have out:LetsOut Q→LetsOut Q':=fun ⟨a,w,k⟩=>⟨a,w,hq _ _ _ (by intro e;cases e) k⟩
 cases r with
 |ok n w'=>
  cases n<;>simp only [Oper.upon] at hh ⊢ <;>
   first
    |exact h _ _ hh
    |exact Calls.mono hh (fun e w'' he=>by cases e<;>first|exact h _ _ he|exact hq _ _ _ (by intro e;cases e) he|exact out he)
    |exact Rows.mono hh (fun _ _ he=>h _ _ he)
 |halt x w'=>
  cases x<;>simp only [Oper.upon] at hh ⊢<;>first|exact hh|exact hq _ _ _ (by intro e;cases e) hh
theorem zqF (hS:zdL l=true) (hA:zfl md l=true)
  (hR:∀i v w w',R i v w→Below w.heap.size w w'→R i v w') (hs:zcm P md l (zaA a l 0) W R 0 l)
  (hQ:∀vals w,Below W.heap.size W w→zeR R vals w 0 l→Q .normal (zaA a l 0 vals) w):
  ∀(fuel:Nat) (L:Array Bool) (vals:Nat→Value) (w:World),L.size=l.length→zch L≤fuel→Below W.heap.size W w→(∀i,i<l.length→L.getD i true=true→R i (vals i) w)→wpAny P md l.toArray Q fuel L (zaA a l 0 vals) w:=by
 intro fuel
 induction fuel with
 |zero=>
  intro L vals w hL hf hb hF;have all:=fun i (hi:i<l.length)=>zbI (L:=L) (by omega) i
  refine ⟨?_,hQ vals w hb (zdZ l 0 fun i hi=>by rw [Nat.zero_add];exact hF i hi (all i hi))⟩;apply List.eq_nil_iff_forall_not_mem.2;intro j hj;obtain ⟨u,o,ho,_⟩:=mem_ready.1 hj;rw [zbI (L:=L) (by omega) j] at u;cases u
 |succ fuel ih=>
  intro L vals w hL hf hb hF;refine ⟨fun e=>?_,fun i hi=>?_⟩
  ·have all:=zeQ hA e hL;exact hQ vals w hb (zdZ l 0 fun i hi=>by rw [Nat.zero_add];exact hF i hi (all i hi))
  ·obtain ⟨u,o,ho,hall⟩:=mem_ready.1 hi;have ho':l[i]? = some o:=by simpa using ho
   have hil:i<l.length:=by
    rcases Nat.lt_or_ge i l.length with k|k
    ·exact k
    ·rw [List.getElem?_eq_none k] at ho';cases ho'
   have st:=zjM l 0 i o hs ho' vals w hb (zgA _ fun e he hbd=>by
    have he':e ∈ o.after:=by simpa using he
    have h1:=zcY hA ho' e he' hbd;have h2:=hall e he' hbd;rw [zaY (by omega) false true] at h2
    exact hF e.on (by omega) h2)
   have st2:wpOp P l.toArray Q i (fun a' w'=>∃v,a'=(zaA a l 0 vals).put o.dst v∧R i v w'∧Below w.heap.size w w') (zaA a l 0 vals) w:=by
    unfold wpOp;rw [ho];unfold wpList at st;simp only [wpList,Nat.zero_add,zfI] at st;show if Region.wanted o (yielded l.toArray (zaA a l 0 vals).tmps)=true then _ else _;split
    ·rename_i hw;rw [if_pos hw] at st;rcases st with st|⟨_,st⟩
     ·exact .inl (zjN (fun a' w' ⟨v,_,h⟩=>⟨v,h⟩) (fun x a' w' hx ⟨v,h,_⟩=>absurd h hx) st)
     ·obtain ⟨a',w',v,h,_⟩:=st;cases h
    ·rename_i hw;rw [if_neg hw] at st;obtain ⟨v,_,h⟩:=st;exact ⟨v,h⟩
   refine wpOp_mono (fun a' w' ⟨v,ea,hr,hbw⟩=>?_) st2;subst ea;rw [zdM v l a 0 i o vals hS ho',Nat.zero_add];refine ih _ _ w' (by simpa using hL) (by have:=zcC u;omega) (zaz hb hbw) fun j hj hlist=>?_
   by_cases e:j=i
   ·subst e;unfold updV;rw [if_pos rfl];exact hr
   ·unfold updV;rw [if_neg e];rw [getD_set_ne true (fun h=>e h.symm)] at hlist;exact hR j _ w w' (hF j hj hlist) hbw
theorem zbT (R:Nat→Value→World→Prop) (F:(Nat→Value)→Act) (hF:∀u,zaA a l 0 u=F u) (hm:P.follows .mixedOrders=true) (hS:zdL l=true) (hA:zfl .any l=true)
  (hR:∀i v w w',R i v w→Below w.heap.size w w'→R i v w') (hs:zcm P .any l F w R 0 l)
  (hQ:∀u w',Below w.heap.size w w'→zeR R u w' 0 l→Q .normal (F u) w'):(Code.region id l.toArray true).wp P Q a w:=by
 obtain rfl:zaA a l 0=F:=funext hF;refine wp_region_any hm ?_;have e:zaA a l 0 (fun i=>((l[i]?).bind (·.dst)).elim undef fun d=>a.tmps.getD d undef)=a:=by
  have aux:∀(rest:List Oper) (k:Nat) (u:Nat→Value),(∀i o,rest[i]? = some o→∀d,o.dst=some d→u (k+i)=a.tmps.getD d undef)→zaA a rest k u=a:=by
   intro rest
   induction rest with
   |nil=>intros;rfl
   |cons o rest ih=>
    intro k u h;show zaA (a.put o.dst (u k)) rest (k+1) u=a;rw [zjK a o.dst (u k) (fun x hx=>h 0 o rfl x hx)];exact ih (k+1) u fun i p hp d hd=>by rw [show k+1+i=k+(i+1) by omega];exact h (i+1) p (by simpa using hp) d hd
  refine aux l 0 _ fun i o ho d hd=>?_
  rw [Nat.zero_add,ho];simp [hd]
 have bd:Below w.heap.size w { w with drawn:=w.drawn+1 }:=(Below.refl _ w).drew
 have k:=zqF (Q:=Q) hS hA hR hs hQ l.toArray.size (Array.replicate l.toArray.size false) (fun i=>((l[i]?).bind (·.dst)).elim undef fun d=>a.tmps.getD d undef) { w with drawn:=w.drawn+1 } (by simp) (by
  unfold zch
  simp) bd (fun i hi h=>by
  rw [Array.getD_eq_getD_getElem?,Array.getElem?_replicate,if_pos (by simpa using hi)] at h
  cases h)
 rw [e] at k;exact k
def zhR (md:Region.Mode) (n:Nat) (o:Oper):Bool:=(List.range n).all fun i=>o.after.any fun e=>Region.binds md e&&e.on==i
theorem ziP {n:Nat} (h:zhR md n o=true)  (hi:i<n):∃e ∈ o.after,Region.binds md e=true∧e.on=i:=by
 have k:=List.all_eq_true.1 h i (List.mem_range.2 hi);obtain ⟨e,he,k2⟩:=Array.any_eq_true'.1 k;simp only [Bool.and_eq_true,beq_iff_eq] at k2;exact ⟨e,he,k2.1,k2.2⟩
theorem ziQ {H:List Oper} (hS:zdL H=true) (hA:zfl md (H++[o])=true) (hO:zhR md H.length o=true)
  (hR:∀i v w w',R i v w→Below w.heap.size w w'→R i v w') (hs:zcm P md (H++[o]) (zaA a H 0) W R 0 H)
  (hQ:∀vals w,Below W.heap.size W w→zeR R vals w 0 H→wpList P (H++[o]).toArray Q [o] (zaA a H 0 vals) w):
  ∀(fuel:Nat) (L:Array Bool) (vals:Nat→Value) (w:World),L.size=H.length+1→zch L≤fuel→L.getD H.length true=false→Below W.heap.size W w→(∀i,i<H.length→L.getD i true=true→R i (vals i) w)→wpAny P md (H++[o]).toArray Q fuel L (zaA a H 0 vals) w:=by
 intro fuel
 induction fuel with
 |zero=>
  intro L vals w hL hf hn hb hF;rw [zbI (L:=L) (by omega) H.length] at hn;cases hn
 |succ fuel ih=>
  intro L vals w hL hf hn hb hF;refine ⟨fun e=>?_,fun i hi=>?_⟩
  ·have all:=zeQ hA e (by simpa using hL) H.length (by simp);rw [hn] at all;cases all
  ·obtain ⟨u,p,hp,hall⟩:=mem_ready.1 hi
   by_cases hil:i<H.length
   ·have hp':H[i]? = some p:=by simpa [List.getElem?_append_left hil] using hp
    have hp2:(H++[o])[i]? = some p:=by simpa using hp
    have st:=zjM H 0 i p hs hp' vals w hb (zgA _ fun e he hbd=>by
     have he':e ∈ p.after:=by simpa using he
     have h1:=zcY hA hp2 e he' hbd;have h2:=hall e he' hbd;rw [zaY (by omega) false true] at h2
     exact hF e.on (by omega) h2)
    have st2:wpOp P (H++[o]).toArray Q i (fun a' w'=>∃v,a'=(zaA a H 0 vals).put p.dst v∧R i v w'∧Below w.heap.size w w') (zaA a H 0 vals) w:=by
     unfold wpOp;rw [hp];unfold wpList at st;simp only [wpList,Nat.zero_add,zfI] at st;show if Region.wanted p (yielded (H++[o]).toArray (zaA a H 0 vals).tmps)=true then _ else _;split
     ·rename_i hw;rw [if_pos hw] at st;rcases st with st|⟨_,st⟩
      ·exact .inl (zjN (fun a' w' ⟨v,_,h⟩=>⟨v,h⟩) (fun x a' w' hx ⟨v,h,_⟩=>absurd h hx) st)
      ·obtain ⟨a',w',v,h,_⟩:=st;cases h
     ·rename_i hw;rw [if_neg hw] at st;obtain ⟨v,_,h⟩:=st;exact ⟨v,h⟩
    refine wpOp_mono (fun a' w' ⟨v,ea,hr,hbw⟩=>?_) st2;subst ea;rw [zdM v H a 0 i p vals hS hp',Nat.zero_add];refine ih _ _ w' (by simpa using hL) (by have:=zcC u;omega) (by rw [getD_set_ne true (by omega)];exact hn) (zaz hb hbw) fun j hj hlist=>?_
    by_cases e:j=i
    ·subst e;unfold updV;rw [if_pos rfl];exact hr
    ·unfold updV;rw [if_neg e];rw [getD_set_ne true (fun h=>e h.symm)] at hlist;exact hR j _ w w' (hF j hj hlist) hbw
   ·have hin:i=H.length:=by
     have h3:i<H.length+1:=by simpa using (Array.getElem?_eq_some_iff.1 hp).1
     omega
    subst hin;have ep:p=o:=by simpa using hp.symm
    subst ep;have lis:∀j,j<H.length→L.getD j true=true:=fun j hj=>by
     obtain ⟨e,he,hbd,rfl⟩:=ziP hO hj;have h2:=hall e he hbd;rw [zaY (by omega) false true] at h2;exact h2
    have st:=hQ vals w hb (zdZ H 0 fun j hj=>by rw [Nat.zero_add];exact hF j hj (lis j hj));have st2:wpOp P (H++[p]).toArray Q H.length (fun a' w'=>Q .normal a' w') (zaA a H 0 vals) w:=by
     unfold wpOp;rw [hp];exact st
    refine wpOp_mono (fun a' w' hq=>wpAny_done ?_ hq fuel) st2;apply List.eq_nil_iff_forall_not_mem.2;intro j hj;obtain ⟨u2,q,hq2,_⟩:=mem_ready.1 hj;have hjl:j<H.length+1:=by simpa using (Array.getElem?_eq_some_iff.1 hq2).1
    by_cases ej:j=H.length
    ·subst ej;rw [Array.getD_eq_getD_getElem?,Array.getElem?_setIfInBounds_self_of_lt (by omega)] at u2;cases u2
    ·rw [getD_set_ne true (fun h=>ej h.symm),lis j (by omega)] at u2;cases u2
theorem zbq (H:List Oper) (o:Oper) (hl:l=H++[o]) (R:Nat→Value→World→Prop) (F:(Nat→Value)→Act) (hF:∀u,zaA a H 0 u=F u) (hm:P.follows .mixedOrders=true) (hS:zdL H=true) (hA:zfl .any (H++[o])=true) (hO:zhR .any H.length o=true)
  (hR:∀i v w w',R i v w→Below w.heap.size w w'→R i v w') (hs:zcm P .any l F w R 0 H)
  (hQ:∀u w',Below w.heap.size w w'→zeR R u w' 0 H→wpList P l.toArray Q [o] (F u) w'):(Code.region id l.toArray true).wp P Q a w:=by
 obtain rfl:zaA a H 0=F:=funext hF;subst hl;refine wp_region_any hm ?_;have e:zaA a H 0 (fun i=>((H[i]?).bind (·.dst)).elim undef fun d=>a.tmps.getD d undef)=a:=by
  have aux:∀(rest:List Oper) (k:Nat) (u:Nat→Value),(∀i o,rest[i]? = some o→∀d,o.dst=some d→u (k+i)=a.tmps.getD d undef)→zaA a rest k u=a:=by
   intro rest
   induction rest with
   |nil=>intros;rfl
   |cons o rest ih=>
    intro k u h;show zaA (a.put o.dst (u k)) rest (k+1) u=a;rw [zjK a o.dst (u k) (fun x hx=>h 0 o rfl x hx)];exact ih (k+1) u fun i p hp d hd=>by rw [show k+1+i=k+(i+1) by omega];exact h (i+1) p (by simpa using hp) d hd
  refine aux H 0 _ fun i o ho d hd=>?_
  rw [Nat.zero_add,ho];simp [hd]
 have bd:Below w.heap.size w { w with drawn:=w.drawn+1 }:=(Below.refl _ w).drew
 have k:=ziQ (Q:=Q) hS hA hO hR hs hQ (H++[o]).toArray.size (Array.replicate (H++[o]).toArray.size false) (fun i=>((H[i]?).bind (·.dst)).elim undef fun d=>a.tmps.getD d undef) { w with drawn:=w.drawn+1 } (by simp) (by
  unfold zch
  simp) (by
  rw [Array.getD_eq_getD_getElem?,Array.getElem?_replicate,if_pos (by simp)]
  rfl) bd (fun i hi h=>by
  rw [Array.getD_eq_getD_getElem?,Array.getElem?_replicate,if_pos (by simp;omega)] at h
  cases h)
 rw [e] at k;exact k
end Go.Proofs.YtdiidjehdginnaaGreatDoor
namespace Go.Proofs.YtdiidjehdginnaaGreatDoor
set_option maxRecDepth 20000
open Go.ChangeShapes Go.WideShapes Go.ChangeAt Go.RowKit
variable {a:Act} {ops:Array Oper} {Q:Exit→Act→World→Prop} {ks:List (Option IntKind)} {rest:List Oper} {N b g:Nat} {f:Nat→Int} {c:Nat→Value} {o op:Oper} {P:Program} {T t:TypeId} {w w':World}
def zqG:Option IntKind→Value→Prop
 |some k,v=>∃z,v=.int k z∧(Lit.int k z).wf=true
 |none,v=>∃b,v=.bool b
def IsStructs (ks:List (Option IntKind)) (w:World) (a:Option Addr) (len cap:Nat):Prop:=
 (a=none∧len=0∧cap=0)∨∃x,a=some x∧len≤cap∧cap≤maxLen∧∀i,i<len→∀j k,ks[j]? = some k→∃v,zqG k v∧w.cell? (x.add (i*ks.length+j))=some v
theorem IsStructs.max {a:Option Addr} {len cap:Nat} (h:IsStructs ks w a len cap):len≤maxLen:=by
 rcases h with ⟨_,rfl,_⟩|⟨x,_,h1,h2,_⟩
 ·exact Nat.zero_le _
 ·omega
theorem IsStructs.cells {k0:Option IntKind} {a:Option Addr} {len cap:Nat} (h:IsStructs (k0::ks) w a len cap) (hl:0<len):
  ∃b off,a=some ⟨b,off,none⟩∧b<w.heap.size∧len≤cap∧cap≤maxLen∧∀i,i<len→∀j k,(k0::ks)[j]? = some k→∃v,zqG k v∧w.cell? ⟨b,off+(i*(k0::ks).length+j),none⟩=some v:=by
 rcases h with ⟨rfl,rfl,rfl⟩|⟨x,rfl,h1,h2,h3⟩
 ·omega
 ·obtain ⟨v,_,c0⟩:=h3 0 hl 0 k0 rfl;have e0:x.add (0*(k0::ks).length+0)=x:=by rw [Nat.zero_mul];rfl
  rw [e0] at c0;have hs:=World.cell?_spot c0;obtain ⟨b,off,sp⟩:=x;simp only at hs;subst hs;refine ⟨b,off,rfl,zfz c0,h1,h2,fun i hi j k hk=>?_⟩;obtain ⟨v,fv,cv⟩:=h3 i hi j k hk;refine ⟨v,fv,?_⟩;rw [←cv]
  congr 1
  unfold Addr.add;split<;>simp_all
open Go.RowKit
theorem zfm:∀(xs ys:List Int),xs.length=ys.length→((List.range xs.length).all fun i=>xs.getD i 0==ys.getD i 0)=(xs==ys)
 |[],[],_=>rfl
 |x::xs,y::ys,h=>by
  have ih:=zfm xs ys (by simpa using h);rw [List.length_cons,List.range_succ_eq_map,List.all_cons,List.all_map];have e:((fun i=>(x::xs).getD i 0==(y::ys).getD i 0) ∘ Nat.succ)=fun i=>xs.getD i 0==ys.getD i 0:=by
   funext i;simp
  rw [e,ih];simp [List.cons_beq_cons]
 |[],_::_,h=>by simp at h
 |_::_,[],h=>by simp at h
theorem zhp (w:World) (d:Nat) (t e:TypeId) (n:Nat) (ht:P.underlying t=some (.array n e)) (he:P.underlying e=some (.int .i64)) (hsz:∀w,(sizeOf e).run P w=.ok 1 w)
  (xs ys:List Int) (hx:xs.length=n) (hy:ys.length=n):
  (Op.equalIn (d+2) t (.agg (xs.map (Value.int .i64)).toArray) (.agg (ys.map (Value.int .i64)).toArray)).run P w=.ok (xs==ys) w:=by
 rw [←zfm xs ys (hx.trans hy.symm),hx,List.range_eq_range',Op.equalIn];simp only [Sem.run_bind,run_underlying ht,Result.andThen_ok,hsz,Std.Legacy.Range.forIn_eq_forIn_range',Std.Legacy.Range.size,Nat.sub_zero,Nat.add_sub_cancel,Nat.div_one];have hl:∀i ∈ List.range' 0 n 1,i<n:=fun i hi=>by simpa using (List.mem_range'_1.1 hi).2
 generalize List.range' 0 n 1=l at hl ⊢
 induction l with
 |nil=>simp
 |cons i l ih=>
  have hi:i<n:=hl i (by simp);have px:(part e (xs.map (Value.int .i64)).toArray (i*1)).run P w=.ok (.int .i64 (xs.getD i 0)) w:=by
   simp [part,isAgg,run_underlying he,List.getD,List.getElem?_eq_getElem (show i<xs.length by omega)]
  have py:(part e (ys.map (Value.int .i64)).toArray (i*1)).run P w=.ok (.int .i64 (ys.getD i 0)) w:=by
   simp [part,isAgg,run_underlying he,List.getD,List.getElem?_eq_getElem (show i<ys.length by omega)]
  have pe:(Op.equalIn (d+1) e (.int .i64 (xs.getD i 0)) (.int .i64 (ys.getD i 0))).run P w=.ok (xs.getD i 0==ys.getD i 0) w:=run_equalIn_int w d e .i64 .i64 _ _ he;simp only [List.forIn_cons,Sem.run_bind,px,py,pe,Result.andThen_ok,List.all_cons];cases hb:(xs.getD i 0==ys.getD i 0)
  ·simp
  ·simp only [Bool.not_true,Bool.false_eq_true,if_false,Sem.run_pure,Result.andThen_ok,Bool.true_and];exact ih fun j hj=>hl j (by simp [hj])
theorem zkU (w:World) (t e:TypeId) (n:Nat) (ht:P.underlying t=some (.array n e)) (he:P.underlying e=some (.int .i64)) (hsz:∀w,(sizeOf e).run P w=.ok 1 w)
  (xs ys:List Int) (hx:xs.length=n) (hy:ys.length=n):
  (binOp .eql t (.agg (xs.map (Value.int .i64)).toArray) (.agg (ys.map (Value.int .i64)).toArray)).run P w=.ok (.bool (xs==ys)) w:=by
 rw [run_eql_struct,zhp w 9998 t e n ht he hsz xs ys hx hy];rfl
set_option linter.unusedVariables false
def rowF (c:Nat→Value) (N:Nat):Array Value:=((List.range N).map c).toArray
def iv (f:Nat→Int):Nat→Value:=fun i=>.int .i64 (f i)
def updC (c:Nat→Value) (i:Nat) (v:Value):Nat→Value:=fun j=>if j=i then v else c j
def up (f:Nat→Int) (i:Nat) (v:Int):Nat→Int:=fun j=>if j=i then v else f j
theorem zhS (f:Nat→Int) (i:Nat) (v:Int):up f i v i=v:=by simp [up]
theorem zbC (f:Nat→Int) (i j:Nat) (v:Int) (h:¬j=i):up f i v j=f j:=by simp [up,h]
theorem zjO (f:Nat→Int) (i:Nat) (v:Int):updC (iv f) i (.int .i64 v)=iv (up f i v):=by
 funext j;simp only [updC,iv,up];split<;>rfl
theorem zai (c:Nat→Value) (N:Nat):(rowF c N).size=N:=by simp [rowF]
theorem zbp (c:Nat→Value) (N j:Nat) (h:j<N):(rowF c N)[j]? = some (c j):=by simp [rowF,h]
theorem zcZ (c:Nat→Value) (N j:Nat) (h:¬j<N):(rowF c N)[j]? = none:=Array.getElem?_eq_none (by rw [zai];omega)
theorem zbh {d:Nat→Value} (h:∀j,j<N→c j=d j):rowF c N=rowF d N:=by
 unfold rowF
 congr 1
 apply List.map_congr_left;intro j hj;exact h j (List.mem_range.1 hj)
theorem zuk (c:Nat→Value) (N i:Nat) (v:Value):(rowF c N).setIfInBounds i v=rowF (updC c i v) N:=by
 apply Array.ext_getElem?;intro j;rw [Array.getElem?_setIfInBounds,zai]
 by_cases k:j<N
 ·rw [zbp _ _ _ k,zbp _ _ _ k]
  by_cases e:i=j
  ·subst e;simp [k,updC]
  ·rw [if_neg e];simp [updC,show ¬j=i from fun h=>e h.symm]
 ·rw [zcZ _ _ _ k,zcZ _ _ _ k]
  by_cases e:i=j
  ·subst e;simp [k]
  ·rw [if_neg e]
theorem zqH (c:Nat→Value) (N o M:Nat) (h:o+M≤N):(rowF c N).extract o (o+M)=rowF (fun j=>c (o+j)) M:=by
 apply Array.ext_getElem?;intro j;rw [Array.getElem?_extract,zai]
 by_cases k:j<M
 ·rw [if_pos (by omega),zbp _ _ _ (by omega),zbp _ _ _ k]
 ·rw [if_neg (by omega),zcZ _ _ _ k]
theorem zby (f:Nat→Int) (N:Nat):(rowF (iv f) N).all (·.oneCell')=true:=by
 unfold rowF iv;rw [←Array.all_toList];simp [Value.oneCell']
theorem zea (h:∀j,j<N→(c j).oneCell'=true):(rowF c N).all (·.oneCell')=true:=by
 unfold rowF;rw [←Array.all_toList,List.all_eq_true];intro v hv;obtain ⟨j,hj,rfl⟩:=List.mem_map.1 hv;exact h j (List.mem_range.1 hj)
theorem zfJ (c:Nat→Value) (N:Nat):(rowF c N).toList=(List.range N).map c:=rfl
def HasF (T:TypeId) (w:World) (b N:Nat) (c:Nat→Value):Prop:=w.heap[b]? = some (.cells (rowF c N) T (0,0))
theorem HasF.lt (h:HasF T w b N c):b<w.heap.size:=lt_of_block h
theorem HasF.next (h:HasF T w b N c) (k:Below w.heap.size w w'):HasF T w' b N c:=(k.block b (lt_of_block h)).trans h
theorem HasF.at (h:HasF T w b N c) (j:Nat) (hj:j<N):w.cell? ⟨b,j,none⟩=some (c j):=(cell_of_row w b j _ _ _ h).trans (zbp c N j hj)
theorem HasF.int (h:HasF T w b N (iv f)) (j:Nat) (hj:j<N):w.cell? ⟨b,j,none⟩=some (.int .i64 (f j)):=h.at j hj
theorem HasF.frozen (h:HasF T w b N c) (j:Nat):w.frozen? ⟨b,j,none⟩=false:=frozen_of_row w b j _ _ h
theorem HasF.ext (h:HasF T w b N c) {d:Nat→Value} (e:∀j,j<N→c j=d j):HasF T w b N d:=by
 unfold HasF;rw [←zbh e];exact h
theorem HasF.set (h:HasF T w b N c) (i:Nat) (v:Value):HasF T (w.setCell ⟨b,i,none⟩ v) b N (updC c i v):=by
 have e:=heap_setCell_same w b i _ _ v h;rw [zuk] at e;exact e
theorem HasF.up (h:HasF T w b N (iv f)) (i:Nat) (v:Int):HasF T (w.setCell ⟨b,i,none⟩ (.int .i64 v)) b N (iv (up f i v)):=by
 have k:=h.set i (.int .i64 v);rw [zjO] at k;exact k
theorem HasF.other (h:HasF T w b N c) (p:Addr) (v:Value) (hb:b≠p.block):HasF T (w.setCell p v) b N c:=(heap_setCell_other w p b v hb).trans h
theorem HasF.row (h:HasF T w b N c) (cs:Array Value) (hb:b≠g):HasF T (w.setRow g cs) b N c:=(setRow_other w g b cs hb).trans h
theorem zbo (T:TypeId) (w:World) (N:Nat) (c:Nat→Value):HasF T (w.alloc (.cells (rowF c N) T)) w.heap.size N c:=heap_alloc_new _ _
theorem zcn (T:TypeId) (w:World) (x:Obj) (N:Nat) (c:Nat→Value):HasF T ((w.alloc x).alloc (.cells (rowF c N) T)) (w.heap.size+1) N c:=by
 have h:=zbo T (w.alloc x) N c;rw [show (w.alloc x).heap.size=w.heap.size+1 by simp] at h;exact h
theorem HasF.range (h:HasF T w b N c) (o M:Nat) (hM:o+M≤N):w.rangeAt b o (rowF (fun j=>c (o+j)) M).toList:=by
 intro j v hv;rw [zfJ] at hv;obtain ⟨hj,e⟩:=List.getElem?_eq_some_iff.1 hv;have hj2:j<M:=by simpa using hj
 rw [h.at (o+j) (by omega),←e];simp
theorem HasF.there (h:HasF T w b N c) (o M:Nat) (hM:o+M≤N):w.there b o M:=fun j hj=>⟨by rw [h.at (o+j) (by omega)];rfl,h.frozen _⟩
theorem zje (b N:Nat) (T:TypeId):∀(vs:List Value) (o:Nat) (w:World) (c:Nat→Value),HasF T w b N c→HasF T (w.setCells b o vs) b N (fun j=>if o≤j∧j<o+vs.length then vs.getD (j-o) undef else c j)
 |[],o,w,c,h=>h.ext fun j _=>by rw [if_neg (by simp)]
 |v::vs,o,w,c,h=>(zje b N T vs (o+1) _ _ (h.set o v)).ext fun j _=>by
  by_cases e:j=o
  ·subst e;rw [if_neg (by omega),if_pos (by simp)];simp [updC]
  ·by_cases k:o≤j∧j<o+(v::vs).length
   ·rw [if_pos (by simp at k;omega),if_pos k,show j-o=(j-(o+1))+1 by omega];simp
   ·rw [if_neg (by simp at k;omega),if_neg k];simp [updC,e]
theorem HasF.cells (h:HasF T w b N c) (o M:Nat) (d:Nat→Value):HasF T (w.setCells b o (rowF d M).toList) b N (fun j=>if o≤j∧j<o+M then d (j-o) else c j):=
 (zje b N T _ o w c h).ext fun j _=>by
  rw [zfJ];simp only [List.length_map,List.length_range]
  by_cases k:o≤j∧j<o+M
  ·rw [if_pos k,if_pos k];simp [List.getD,show j-o<M by omega]
  ·rw [if_neg k,if_neg k]
def But (b:Nat) (w w':World):Prop:=w'.os=w.os∧w'.tape=w.tape∧w'.output=w.output∧w.heap.size≤w'.heap.size∧∀k,k<w.heap.size→k≠b→w'.heap[k]? = w.heap[k]?
theorem But.of (h:Below w.heap.size w w'):But b w w':=⟨h.os,h.tape,h.output,h.size,fun k hk _=>h.block k hk⟩
theorem But.refl (b:Nat) (w:World):But b w w:=But.of (Below.refl _ _)
theorem But.size (h:But b w w'):w.heap.size≤w'.heap.size:=h.2.2.2.1
theorem But.block (h:But b w w') (k:Nat) (hk:k<w.heap.size) (hb:k≠b):w'.heap[k]? = w.heap[k]? :=h.2.2.2.2 k hk hb
theorem But.trans {w1 w2 w3:World} (h:But b w1 w2) (k:But b w2 w3):But b w1 w3:=
 ⟨k.1.trans h.1,k.2.1.trans h.2.1,k.2.2.1.trans h.2.2.1,Nat.le_trans h.size k.size,fun i hi hb=>(k.block i (Nat.lt_of_lt_of_le hi h.size) hb).trans (h.block i hi hb)⟩
theorem But.set (h:But b w w') (o:Nat) (v:Value):But b w (w'.setCell ⟨b,o,none⟩ v):=
 ⟨h.1,h.2.1,h.2.2.1,by have:=h.size;simpa [World.setCell] using this,fun k hk hE=>(Below.heap_setCell _ _ _ _ fun e=>hE e).trans (h.block k hk hE)⟩
theorem But.cells :∀(vs:List Value) (o:Nat) (w':World),But b w w'→But b w (w'.setCells b o vs)
 |[],_,_,h=>h
 |v::vs,o,w',h=>But.cells vs (o+1) _ (h.set o v)
theorem But.below {B:Nat} (h:But b w w') (hb:B≤b) (hB:B≤w.heap.size):Below B w w':=
 ⟨h.1,h.2.1,h.2.2.1,h.size,fun k hk=>h.block k (Nat.lt_of_lt_of_le hk hB) fun e=>by omega⟩
theorem But.obj {c:Nat} {o:Obj} (h:But b w w') (k:w.heap[c]? = some o) (hc:c≠b):w'.heap[c]? = some o:=(h.block c (lt_of_block k) hc).trans k
theorem But.drew (h:But b w w'):But b w w'.drew:=h.trans ⟨rfl,rfl,rfl,Nat.le_refl _,fun _ _ _=>rfl⟩
theorem But.drewN (h:But b w w') (n:Nat):But b w (w'.drewN n):=h.trans ⟨rfl,rfl,rfl,Nat.le_refl _,fun _ _ _=>rfl⟩
theorem up_up (f:Nat→Int) (i:Nat) (u v:Int):up (up f i u) i v=up f i v:=by
 funext j;simp only [up];split<;>rfl
theorem But.keep (h:But b w w') (k:HasF T w g N c) (hc:g≠b):HasF T w' g N c:=h.obj k hc
theorem But.andBelow {a c:World} (h:But b w a) (k:Below a.heap.size a c):But b w c:=h.trans (But.of k)
theorem bbut {B:Nat} {a c:World} (h:Below B w a) (k:But b a c) (hb:B≤b) (hB:B≤w.heap.size):Below B w c:=h.trans (k.below hb (Nat.le_trans hB h.size))
theorem zcc {h:Nat} {c d:Array Value} {s:TypeId} {p q:Nat×Nat} (h1:w.heap[g]? = some (.cells c t p)) (h2:w.heap[h]? = some (.cells d s q)) (n:t≠s):g≠h:=by
 intro e;subst e;have k:=h1.symm.trans h2;simp at k;exact n k.2.1
theorem zav (hg:o.guard=none) (t:TypeId) (ho:o.op=.alloc t) (R:Array Value) (h:∀w,(zeroValue t).run P w=.ok (.agg R) w)
  (hK:wpList P ops Q rest (a.put o.dst (.pointer (some ⟨w.heap.size,0,none⟩))) (w.alloc (.cells R t))):wpList P ops Q (o::rest) a w:=
 wpList_plain hg fun K hK'=>by
  have e:(Instr.alloc t true (.tuple #[])).run P w=.ok (.pointer (some ⟨w.heap.size,0,none⟩)) (w.alloc (.cells R t)):=by
   unfold Instr.alloc;simp only [Sem.run_bind,h,Result.andThen_ok];rfl
  unfold Oper.wp execOp;simp only [ho,Sem.run_bind,e,Result.andThen_ok];exact hK' _ _ hK
theorem wpList_built (hg:o.guard=none) (t:TypeId) (parts:Array (Nat×Operand)) (ho:o.op=.build t parts)
  (u:Array (Nat×Value)) (hp:(parts.map fun (i,x)=>(i,a.eval x))=u) (R:Array Value) (h:∀w,(Instr.build t u).run P w=.ok (.agg R) w) (hK:wpList P ops Q rest (a.put o.dst (.agg R)) w):wpList P ops Q (o::rest) a w:=
 wpList_plain hg fun K hK'=>by
  unfold Oper.wp execOp;simp only [ho,hp,Sem.run_bind,h,Result.andThen_ok];exact hK' _ _ hK
theorem zcK (hgd:op.guard=none) (ty:TypeId) (x:Operand) (ho:op.op=.load ty x)
  (b o:Nat) (hx:a.eval x=.pointer (some ⟨b,o,none⟩))    (h:HasF T w b N (iv f)) (M:Nat) (hM:o+M≤N) (d:TypeDesc) (hu:P.underlying ty=some d) (hd:d.isRow=true) (hi:(P.info? ty).map (·.size)=some M)
  (hK:wpList P ops Q rest (a.put op.dst (.agg (rowF (iv fun j=>f (o+j)) M))) w):wpList P ops Q (op::rest) a w:=by
 refine wpList_load_mid hgd ty x ho b o hx (rowF (iv fun j=>f (o+j)) M).toList d (h.range o M hM) hu hd ?_ hK;rw [Array.length_toList,zai];exact hi
theorem zaw (hgd:op.guard=none) (ty:TypeId) (x:Operand) (ho:op.op=.load ty x)
  (b o:Nat) (hx:a.eval x=.pointer (some ⟨b,o,none⟩))    (h:HasF T w b N c) (M:Nat) (hM:o+M≤N) (e:Nat→Value) (he:∀j,j<M→c (o+j)=e j) (d:TypeDesc) (hu:P.underlying ty=some d) (hd:d.isRow=true) (hi:(P.info? ty).map (·.size)=some M)
  (hK:wpList P ops Q rest (a.put op.dst (.agg (rowF e M))) w):wpList P ops Q (op::rest) a w:=by
 refine wpList_load_mid hgd ty x ho b o hx (rowF e M).toList d ?_ hu hd ?_ hK
 ·rw [←zbh he];exact h.range o M hM
 ·rw [Array.length_toList,zai];exact hi
theorem zau (hgd:op.guard=none) (ty:TypeId) (x y:Operand) (ho:op.op=.store ty x y)
  (b o M:Nat) (e:Nat→Value) (hx:a.eval x=.pointer (some ⟨b,o,none⟩)) (hy:a.eval y=.agg (rowF e M))    (h:HasF T w b N c) (hM:o+M≤N) (hi:(P.info? ty).map (·.size)=some M) (h1:∀j,j<M→(e j).oneCell'=true)
  (hK:wpList P ops Q rest (a.put op.dst undef) (w.setCells b o (rowF e M).toList)):wpList P ops Q (op::rest) a w:=by
 refine wpList_store_mid hgd ty x y ho b o (rowF e M) hx hy ?_ ?_ (zea h1) hK
 ·rw [zai];exact h.there o M hM
 ·rw [zai];exact hi
theorem zqI {n:Nat} (h:(P.info? t).map (·.size)=some n) (w:World):(sizeOf t).run P w=.ok n w:=by
 cases hq:P.info? t with
 |none=>rw [hq] at h;cases h
 |some i=>
  rw [hq] at h;have:i.size=n:=by simpa using h
  simp [sizeOf,typeInfo,hq,this]
theorem zul {d:TypeDesc} (ht:P.underlying t=some d) (hd:d.isRow=true) {M:Nat} (hs:(P.info? t).map (·.size)=some M) (c:Nat→Value) (N o:Nat) (h:o+M≤N) (w:World):
  (part t (rowF c N) o).run P w=.ok (.agg (rowF (fun j=>c (o+j)) M)) w:=by
 have e:=zqH c N o M h;have z:=zqI hs w;have hagg:(isAgg t).run P w=.ok true w:=by
  unfold isAgg;rw [Sem.run_bind,run_underlying ht w];cases d<;>simp_all
 simp [part,hagg,z,e,Sem.run_bind,Result.andThen]
open Go
mutual
def flat (P:Program):Nat→TypeId→DataW Unit→Option (List Value)
 |0,_,_=>none
 |n+1,t,d=>match P.underlying t with
  |some .bool=>match d with
   |.lit (.bool b)=>some [.bool b]
   |_=>none
  |some (.int k)=>match d with
   |.lit (.int k' z)=>if k'=k then some [.int k z] else none
   |_=>none
  |some .string=>match d with
   |.lit (.string bs)=>some [.string ⟨bs.toArray⟩]
   |_=>none
  |some (.struct fs)=>match d with
   |.agg ds=>match zkV P n fs.toList ds 0 with
    |some vs=>if vs.length=P.cellsOf t then some vs else none
    |none=>none
   |_=>none
  |some (.array _ e)=>match d with
   |.agg ds=>match zox P n e ds with
    |some vs=>if vs.length=P.cellsOf t then some vs else none
    |none=>none
   |_=>none
  |_=>none
def zkV (P:Program):Nat→List Field→List (DataW Unit)→Nat→Option (List Value)
 |0,_,_,_=>none
 |_+1,[],[],_=>some []
 |n+1,f::fs,d::ds,o=>match flat P n f.type d,zkV P n fs ds (o+P.cellsOf f.type) with
  |some x,some y=>if f.offset=o∧x.length=P.cellsOf f.type then some (x++y) else none
  |_,_=>none
 |_+1,_,_,_=>none
def zox (P:Program):Nat→TypeId→List (DataW Unit)→Option (List Value)
 |0,_,_=>none
 |_+1,_,[]=>some []
 |n+1,e,d::ds=>match flat P n e d,zox P n e ds with
  |some x,some y=>if x.length=P.cellsOf e then some (x++y) else none
  |_,_=>none
end
theorem zna {α β:Type} {f:α→Option β} {a:α} {l:List α} {r:List β} (h:(a::l).mapM f=some r):∃b r',f a=some b∧l.mapM f=some r'∧r=b::r':=by
 simp only [List.mapM_cons,Option.bind_eq_bind,Option.bind_eq_some_iff,Option.pure_def,Option.some.injEq] at h;obtain ⟨b,hb,r',hr',rfl⟩:=h;exact ⟨b,r',hb,hr',rfl⟩
theorem zqJ {cs x y:List Value} {o m:Nat} (hx:(cs.drop o).take m=x) (hy:cs.drop (o+m)=y):cs.drop o=x++y:=by
 subst hx;subst hy;rw [←List.drop_drop,List.take_append_drop]
variable {P:Program} {w:World} {base:Nat} {sp:Nat→Bool} {held:Bool}
theorem znb (n:Nat) (ih:∀(m:Nat) (_:m<n) (fuel:Nat) (t:TypeId) (d:DataW Unit) (cs vs:List Value) (p:List MemPlace),flat P m t d=some vs→DataW.trod (fun _=>()) P w base sp held fuel t cs=some (d,p)→cs=vs)
  (fuel:Nat) (cs:List Value):∀(m:Nat) (_:m≤n) (fs:List Field) (ds:List (DataW Unit)) (o:Nat) (vs:List Value) (xs:List (DataW Unit×List MemPlace)),
  zkV P m fs ds o=some vs→(fs.mapM fun f=>DataW.trod (fun _=>()) P w base sp held fuel f.type ((cs.drop f.offset).take (P.cellsOf f.type)))=some xs→xs.map (·.1)=ds→o+vs.length=cs.length→cs.drop o=vs
 |0,_,_,_,_,_,_,h,_,_,_=>by simp [zkV] at h
 |m+1,hm,fs,ds,o,vs,xs,h,hx,hd,hl=>by
  cases fs with
  |nil=>
   cases ds with
   |nil=>
    simp [zkV] at h;subst h;simp at hl;subst hl;simp
   |cons d ds=>simp [zkV] at h
  |cons f fs=>
   cases ds with
   |nil=>simp [zkV] at h
   |cons d ds=>
    obtain ⟨b,r,hb,hr,rfl⟩:=zna hx;simp only [List.map_cons,List.cons.injEq] at hd;obtain ⟨hd1,hd2⟩:=hd;simp only [zkV] at h;split at h
    ·rename_i x y e1 e2;split at h
     ·rename_i hc;obtain ⟨rfl,hc2⟩:=hc;obtain rfl:=Option.some.inj h;have e:b=(d,b.2):=by rw [←hd1]
      rw [e] at hb;have h1:=ih m (by omega) fuel _ _ _ _ _ e1 hb;rw [List.length_append,hc2] at hl;exact zqJ h1 (znb n ih fuel cs m (by omega) fs ds _ y r e2 hr hd2 (by omega))
     ·cases h
    ·cases h
theorem znc (n:Nat) (ih:∀(m:Nat) (_:m<n) (fuel:Nat) (t:TypeId) (d:DataW Unit) (cs vs:List Value) (p:List MemPlace),flat P m t d=some vs→DataW.trod (fun _=>()) P w base sp held fuel t cs=some (d,p)→cs=vs)
  (fuel:Nat) (e:TypeId) (cs:List Value):∀(m:Nat) (_:m≤n) (k j:Nat) (ds:List (DataW Unit)) (vs:List Value) (xs:List (DataW Unit×List MemPlace)),
  zox P m e ds=some vs→((List.range' j k).mapM fun i=>DataW.trod (fun _=>()) P w base sp held fuel e ((cs.drop (i*P.cellsOf e)).take (P.cellsOf e)))=some xs→xs.map (·.1)=ds→j*P.cellsOf e+vs.length=cs.length→cs.drop (j*P.cellsOf e)=vs
 |0,_,_,_,_,_,_,h,_,_,_=>by simp [zox] at h
 |m+1,hm,k,j,ds,vs,xs,h,hx,hd,hl=>by
  cases k with
  |zero=>
   simp at hx;subst hx;simp at hd;subst hd;simp [zox] at h;subst h;simp at hl;rw [hl];simp
  |succ k=>
   rw [List.range'_succ] at hx;obtain ⟨b,r,hb,hr,rfl⟩:=zna hx;cases ds with
   |nil=>simp at hd
   |cons d ds=>
    simp only [List.map_cons,List.cons.injEq] at hd;obtain ⟨hd1,hd2⟩:=hd;simp only [zox] at h;split at h
    ·rename_i x y e1 e2;split at h
     ·rename_i hc;obtain rfl:=Option.some.inj h;have eb:b=(d,b.2):=by rw [←hd1]
      rw [eb] at hb;have h1:=ih m (by omega) fuel _ _ _ _ _ e1 hb;rw [List.length_append,hc] at hl;have em:j*P.cellsOf e+P.cellsOf e=(j+1)*P.cellsOf e:=(Nat.succ_mul _ _).symm;refine zqJ h1 ?_;rw [em];exact znc n ih fuel e cs m (by omega) k (j+1) ds y r e2 hr hd2 (by omega)
     ·cases h
    ·cases h
theorem zeb (n:Nat):∀(fuel:Nat) (t:TypeId) (d:DataW Unit) (cs vs:List Value) (p:List MemPlace),flat P n t d=some vs →
  DataW.trod (fun _=>()) P w base sp held fuel t cs=some (d,p)→cs=vs:=by
 induction n using Nat.strongRecOn with
 |ind n ih=>
  intro fuel t d cs vs p h k;cases n with
  |zero=>simp [flat] at h
  |succ n=>
   cases fuel with
   |zero=>simp [DataW.trod] at k
   |succ fuel=>
    simp only [flat] at h;split at h
    ·rename_i hu;split at h
     ·obtain rfl:=Option.some.inj h;simp only [DataW.trod,hu] at k;split at k<;>simp_all
     ·cases h
    ·rename_i kk hu;split at h
     ·split at h
      ·rename_i hk;subst hk;obtain rfl:=Option.some.inj h;simp only [DataW.trod,hu] at k;split at k<;>simp_all
      ·cases h
     ·cases h
    ·rename_i hu;split at h
     ·obtain rfl:=Option.some.inj h;simp only [DataW.trod,hu] at k;split at k<;>simp_all
      rw [←k.2.1]
     ·cases h
    ·rename_i fs hu;split at h
     ·split at h
      ·rename_i ds _ ws hf;split at h
       ·rename_i hl;obtain rfl:=Option.some.inj h;simp only [DataW.trod,hu] at k;split at k
        ·rename_i hcl;obtain ⟨xs,hm,hx⟩:=Option.map_eq_some_iff.1 k;have hx1:xs.map (·.1)=ds:=by simpa using congrArg Prod.fst hx
         have:=znb n (fun m hm=>ih m (by omega)) fuel cs n (Nat.le_refl _) fs.toList ds 0 ws xs hf hm hx1 (by omega)
         simpa using this
        ·cases k
       ·cases h
      ·cases h
     ·cases h
    ·rename_i c e hu;split at h
     ·split at h
      ·rename_i ds _ ws hf;split at h
       ·rename_i hl;obtain rfl:=Option.some.inj h;simp only [DataW.trod,hu] at k;split at k
        ·rename_i hcl;obtain ⟨xs,hm,hx⟩:=Option.map_eq_some_iff.1 k;have hx1:xs.map (·.1)=ds:=by simpa using congrArg Prod.fst hx
         rw [List.range_eq_range'] at hm;have:=znc n (fun m hm=>ih m (by omega)) fuel e cs n (Nat.le_refl _) c 0 ds ws xs hf hm hx1 (by omega)
         simpa using this
        ·cases k
       ·cases h
      ·cases h
     ·cases h
    ·cases h
end Go.Proofs.YtdiidjehdginnaaGreatDoor
namespace Go.Proofs.YtdiidjehdginnaaGreatDoor
set_option maxRecDepth 20000
open Go.RowKit
set_option linter.unusedVariables false
variable {P:Program} {md:Region.Mode} {C:World→Prop} {Q:Exit→Act→World→Prop} {H:List Oper} {o p:Oper}
variable {a:Act} {L:Array Bool} {l:List Oper} {i id:Nat} {w:World}
def topB (md:Region.Mode) (n:Nat) (p:Oper):Bool:=p.after.all (fun e=>decide (e.on<n))&&(List.range n).all (fun i=>p.after.any fun e=>Region.binds md e&&e.on==i)
theorem zqK {n:Nat} (h:topB md n p=true):(∀e ∈ p.after,e.on<n)∧∀i,i<n→∃e ∈ p.after,Region.binds md e=true∧e.on=i:=by
 unfold topB at h;rw [Bool.and_eq_true] at h;refine ⟨fun e he=>by simpa using Array.all_eq_true'.1 h.1 e he,fun i hi=>?_⟩;obtain ⟨e,he,hb⟩:=Array.any_eq_true'.1 (List.all_eq_true.1 h.2 i (List.mem_range.2 hi));simp only [Bool.and_eq_true,beq_iff_eq] at hb;exact ⟨e,he,hb⟩
theorem zjP (h:i<H.length):((H++[o])++[p]).toArray[i]? = H.toArray[i]? :=by
 rw [zdW (H:=H++[o]) (by simp;omega),zdW h]
theorem zmf:((H++[o])++[p]).toArray[H.length]? = some o:=by
 rw [zdW (H:=H++[o]) (by simp)];exact zhM
theorem znd:((H++[o])++[p]).toArray[H.length+1]? = some p:=by
 simp
theorem zco {j:Nat} (h:j<L.size) (b c d:Bool):((L.push b).push c).getD j d=L.getD j d:=by
 rw [zaT (by simp;omega),zaT h]
theorem zkW (b c d:Bool):((L.push b).push c).getD L.size d=b:=by
 rw [zaT (by simp),zdV]
theorem zjQ (hi:i<L.size) (b:Bool):(L.push b).setIfInBounds i true=(L.setIfInBounds i true).push b:=by
 apply Array.ext_getElem?;intro j;rw [Array.getElem?_setIfInBounds,Array.getElem?_push,Array.getElem?_push,Array.getElem?_setIfInBounds];simp only [Array.size_push,Array.size_setIfInBounds]
 by_cases hij:i=j
 ·subst hij;rw [if_pos rfl,if_pos (by omega),if_neg (by omega),if_pos rfl,if_pos (by omega)]
 ·rw [if_neg hij,if_neg hij]
theorem zkX (b:Bool):(L.push b).setIfInBounds L.size true=L.push true:=by
 apply Array.ext_getElem?;intro j;rw [Array.getElem?_setIfInBounds,Array.getElem?_push,Array.getElem?_push]
 by_cases hij:L.size=j
 ·subst hij;simp
 ·rw [if_neg hij,if_neg (fun e=>hij e.symm),if_neg (fun e=>hij e.symm)]
theorem zne (ho:∀e ∈ o.after,e.on<H.length) (hp:∀e ∈ p.after,e.on<H.length+1) (hpm:∃e ∈ p.after,Region.binds md e=true∧e.on=H.length) (hs:L.size=H.length) (hL:∀i,i<H.length→L.getD i true=true)  
  (h:wpList P ((H++[o])++[p]).toArray Q [o,p] a w) (f:Nat):wpAny P md ((H++[o])++[p]).toArray Q (f+2) ((L.push false).push false) a w:=by
 refine ⟨fun e=>?_,fun i hi=>?_⟩
 ·exfalso
  have:H.length ∈ Region.ready md ((H++[o])++[p]).toArray ((L.push false).push false):=mem_ready.2 ⟨by rw [←hs];exact zkW _ _ _,o,zmf,fun e he _=>by
   have h1:=ho e he;rw [zco (by omega),zaY (by omega) false true]
   exact hL _ h1⟩
  rw [e] at this;cases this
 ·obtain ⟨h1,x,h2,z⟩:=mem_ready.1 hi;have h3:i<H.length+2:=by simpa using (Array.getElem?_eq_some_iff.1 h2).1
  have hin:i=H.length:=by
   rcases Nat.lt_or_ge i H.length with k|k
   ·rw [zco (by omega),hL i k] at h1;cases h1
   ·by_cases e:i=H.length
    ·exact e
    ·exfalso;have hi1:i=H.length+1:=by omega
     subst hi1;rw [znd] at h2;cases h2
     obtain ⟨e2,he2,hb2,on2⟩:=hpm;have h4:=z e2 he2 hb2;rw [on2,←hs,zkW] at h4;cases h4
  subst hin;have hw:wpOp P ((H++[o])++[p]).toArray Q H.length (fun a w=>wpList P ((H++[o])++[p]).toArray Q [p] a w) a w:=by
   unfold wpOp;rw [zmf];exact h
  refine wpOp_mono (fun a' w' hq=>?_) hw;rw [zjQ (by simp [hs]),←hs,zkX]
  exact zdt (H:=H++[o]) (o:=p) (by simpa using hp) (by simp [hs]) (fun i hi=>by
   have hi':i<H.length+1:=by simpa using hi
   rcases Nat.lt_or_ge i H.length with k|k
   ·rw [zaT (by omega)];exact hL i k
   ·have:i=L.size:=by omega
    subst this
    exact zdV _ _) hq f
theorem zkY (hb:∀(i:Nat) (x:Oper),H[i]? = some x→x.guard=none∧∀e ∈ x.after,Region.binds md e=true→e.on<i) (ho:∀e ∈ o.after,e.on<H.length)
  (hw:∀i,i<H.length→(∃e ∈ o.after,Region.binds md e=true∧e.on=i)∨∃(j:Nat) (x:Oper),H[j]? = some x∧∃e ∈ x.after,Region.binds md e=true∧e.on=i)
  (hp:∀e ∈ p.after,e.on<H.length+1) (hpw:∀i,i<H.length+1→∃e ∈ p.after,Region.binds md e=true∧e.on=i):
  ∀(fuel:Nat) (L:Array Bool) (a:Act) (w:World),L.size=H.length→zcJ md H L→C w→wpAnyQ P md H.toArray C (fun a=>∀w,C w→wpList P ((H++[o])++[p]).toArray Q [o,p] a w) fuel L a →
   wpAny P md ((H++[o])++[p]).toArray Q (fuel+2) ((L.push false).push false) a w
 |0,L,a,w,hs,hS,hC,h=>zne ho hp (hpw _ (by omega)) hs (zdJ hb hs h.1) (h.2 w hC) 0
 |fuel+1,L,a,w,hs,hS,hC,h=>by
  by_cases e:Region.ready md H.toArray L=[]
  ·exact zne ho hp (hpw _ (by omega)) hs (zdJ hb hs e) (h.1 e w hC) (fuel+1)
  ·obtain ⟨i0,hi0⟩:=List.exists_mem_of_ne_nil _ e;obtain ⟨u0,x0,y0,z0⟩:=mem_ready.1 hi0;have l0:i0<H.length:=by simpa using (Array.getElem?_eq_some_iff.1 y0).1
   have r0:i0 ∈ Region.ready md ((H++[o])++[p]).toArray ((L.push false).push false):=mem_ready.2 ⟨by rw [zco (by omega)];exact u0,x0,by rw [zjP l0];exact y0,fun e he hbi=>by
    have h1:=(hb i0 x0 (by simpa using y0)).2 e he hbi;rw [zco (by omega)]
    exact z0 e he hbi⟩
   refine ⟨fun e1=>(by rw [e1] at r0;cases r0),fun i hi=>?_⟩
   obtain ⟨u,x,y,z⟩:=mem_ready.1 hi;have h3:i<H.length+2:=by simpa using (Array.getElem?_eq_some_iff.1 y).1
   have hin:i<H.length:=by
    rcases Nat.lt_or_ge i H.length with k|k
    ·exact k
    ·exfalso
     by_cases em:i=H.length
     ·subst em;rw [zmf] at y;cases y
      have hr:∀e ∈ o.after,Region.binds md e=true→L.getD e.on true=true:=fun e2 he2 hb2=>by
       have h4:=z e2 he2 hb2;have h5:=ho e2 he2;rw [zco (by omega),zaY (by omega) false true] at h4;exact h4
      have h6:=zmW hw hb hS hr H.length i0 l0 (by omega);rw [u0] at h6;cases h6
     ·have hi1:i=H.length+1:=by omega
      subst hi1;rw [znd] at y;cases y
      obtain ⟨e2,he2,hb2,on2⟩:=hpw i0 (by omega);have h4:=z e2 he2 hb2;rw [on2,zco (by omega),zaY (by omega) false true,u0] at h4;cases h4
   rw [zjP hin] at y;have hx:H[i]? = some x:=by simpa using y
   have hr:i ∈ Region.ready md H.toArray L:=mem_ready.2 ⟨by rw [zco (by omega)] at u;exact u,x,y,fun e he hbi=>by
    have h1:=(hb i x hx).2 e he hbi;have h2:=z e he hbi;rw [zco (by omega)] at h2
    exact h2⟩
   have hq:=h.2 i hr;have hq2:qOp P ((H++[o])++[p]).toArray C i (wpAnyQ P md H.toArray C (fun a=>∀w,C w→wpList P ((H++[o])++[p]).toArray Q [o,p] a w) fuel (L.setIfInBounds i true)) a:=by
    unfold qOp at hq ⊢;rw [zjP hin];rw [y] at hq ⊢;simp only [Region.wanted,(hb i x hx).1,if_true] at hq ⊢;exact hq
   rw [zjQ (by simp;omega),zjQ (by omega)];have hS2:zcJ md H (L.setIfInBounds i true):=by
    intro j xj hxj hj e he hbe;have hlt:=(hb j xj hxj).2 e he hbe
    by_cases hji:j=i
    ·subst hji;rw [hx] at hxj;cases hxj
     have h2:=z e he hbe;rw [zco (by omega)] at h2;rw [getD_set_ne true (by omega)];rw [zaY (by omega) false true] at h2;exact h2
    ·rw [getD_set_ne true (by omega)] at hj;have h2:=hS j xj hxj hj e he hbe
     by_cases hei:e.on=i
     ·rw [hei,Array.getD_eq_getD_getElem?,Array.getElem?_setIfInBounds_self_of_lt (by omega)];rfl
     ·rw [getD_set_ne true (by omega)];exact h2
   exact wpOp_of_qOp hC (fun a' w' hC' h'=>zkY hb ho hw hp hpw fuel _ a' w' (by simp [hs]) hS2 hC' h') hq2
theorem zhT (H:List Oper) (o p:Oper) (hl:l=(H++[o])++[p]) (hm:P.follows .mixedOrders=true) (hB:Region.lexB .any H.toArray=true) (hB2:zeP .any H o=true) (hB3:topB .any (H.length+1) p=true) (hC:C { w with drawn:=w.drawn+1 })
  (h:wpQuiet P H.toArray C (fun a'=>∀w',C w'→wpList P l.toArray Q [o,p] a' w') H a):(Code.region id l.toArray true).wp P Q a w:=by
 subst hl;simp only [Region.lexB,Bool.and_eq_true] at hB;obtain ⟨h1,h2,h3⟩:=zfG hB2;obtain ⟨h4,h5⟩:=zqK hB3;refine wp_region_any hm ?_;have k:=wpAnyQ_lex (C:=C) (md:=.any) hB.1 H 0 (Array.replicate H.toArray.size false) a (by simp) (by simpa using hB.2) h;have hS:zcJ .any H (Array.replicate H.toArray.size false):=by
  intro j x hx hj;exfalso;have hjl:j<H.length:=by
   rcases Nat.lt_or_ge j H.length with k|k
   ·exact k
   ·rw [List.getElem?_eq_none k] at hx;cases hx
  simp [Array.getD,hjl] at hj
 have k2:=zkY h1 h2 h3 h4 h5 H.length (Array.replicate H.toArray.size false) a _ (by simp) hS hC k;have e:((Array.replicate H.toArray.size false).push false).push false=Array.replicate ((H++[o])++[p]).toArray.size false:=by
  simp [Array.replicate_succ]
 rw [e] at k2
 simpa using k2
theorem zcN {P:Program} {Q:Exit→Act→World→Prop} (H:List Oper) (o p:Oper) (hl:l=(H++[o])++[p]) (hm:P.follows .mixedOrders=true) (hB:Region.lexB .any H.toArray=true) (hB2:zeP .any H o=true) (hB3:topB .any (H.length+1) p=true)
  (h:wpQuiet P H.toArray (fun w'=>∃x:Kept w,w'=x.val) (fun a'=>∀w',(∃x:Kept w,w'=x.val)→wpList P l.toArray Q [o,p] a' w') H a):(Code.region id l.toArray true).wp P Q a w:=
 zhT (C:=fun w'=>∃x:Kept w,w'=x.val) H o p hl hm hB hB2 hB3 ⟨kept (Below.refl _ w).drew,rfl⟩ h
end Go.Proofs.YtdiidjehdginnaaGreatDoor
