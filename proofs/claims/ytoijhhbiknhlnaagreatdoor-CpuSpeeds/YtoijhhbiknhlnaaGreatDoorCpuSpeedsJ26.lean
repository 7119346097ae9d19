/- Texts put together. -/
import Derived.Test.YtoijhhbiknhlnaaGreatDoorCpuSpeedsJ02
import Derived.Test.YtoijhhbiknhlnaaGreatDoorCpuSpeedsJ01
import Derived.Deep.RegionHeld3
import Derived.Handy
import Derived.Test.YtoijhhbiknhlnaaGreatDoorCpuSpeedsJ24
import Derived.Test.YtoijhhbiknhlnaaGreatDoorCpuSpeedsJ25
import Derived.Test.YtoijhhbiknhlnaaGreatDoorCpuSpeedsJ15
import Derived.WalkKit
import Derived.ProofKit
import Derived.KernelRfl
namespace Go.Proofs.YtoijhhbiknhlnaaGreatDoor.K9
set_option maxRecDepth 20000
open Go.RowKit
set_option linter.unusedVariables false
def zdo:Array Value:=#[.int .i64 0,.int .i64 0,.int .i64 1,.int .i64 1,.int .i64 0,.int .i64 2,.int .i64 0,.int .i64 3,.int .i64 3,.int .i64 0]
def HasPaths (w:World):Prop:=∃t fr,w.heap[3]? = some (.cells zdo t fr)
theorem zsB {w:World} {g:Nat} {o:Obj} (h:w.heap[g]? = some o):g<w.heap.size:=by
 rcases Nat.lt_or_ge g w.heap.size with k|k
 ·exact k
 ·rw [Array.getElem?_eq_none k] at h;cases h
theorem HasPaths.pos {w:World} (h:HasPaths w):3<w.heap.size:=by
 obtain ⟨t,fr,e⟩:=h;exact zsB e
def zuc (j:Nat):Int:=[(0:Int),0,1,1,0,2,0,3,3,0].getD j 0
theorem HasPaths.cell {w:World} (h:HasPaths w) (j:Nat) (hj:j<10):w.cell? ⟨3,j,none⟩=some (.int .i64 (zuc j)):=by
 obtain ⟨t,fr,e⟩:=h;rcases j with _|_|_|_|_|_|_|_|_|_|j
 all_goals first|omega|(simp [World.cell?,e,zdo,zuc])
def goOf (a f:Int):Int:=(a+f)%65536
theorem zaN (a f:Int) (w:World) (h0 : -65536≤f) (h1:f≤65536):Calls Tryz.prog 153 #[.int .i64 a,.int .i64 f] w fun e w'=>e=.returned (.int .i64 (goOf a f))∧w'=w:=by
 go_enter Tryz.func153,Tryz.ntmps153;go_wp2_with (go_at_call 33;refine (zbd _ _).mono ?_;rintro e w' ⟨rfl,rfl⟩);go_ret;exact ⟨zay (by unfold goOf;omega),rfl⟩
theorem bit_0 (i:Int):zaP i 0=i%2:=by
 rw [zfa i 0 (by decide) (by decide)];show i%65536/1%2=i%2;omega
theorem zcx (i:Int) (w:World):Calls Tryz.prog 152 #[.int .i64 i] w fun e w'=>e=.returned (.agg #[.int .i64 (i%65536),.int .i64 (-(i%65536)),.int .i64 0,.int .i64 (i%2)])∧w'=w.alloc (.cells #[.int .i64 (i%65536),.int .i64 (-(i%65536)),.int .i64 0,.int .i64 (i%2)] 71):=by
 have hb:=bit_0 i;have hn : -(i%65536)<9223372036854775808∧-9223372036854775808≤-(i%65536):=by omega
 go_enter Tryz.func152,Tryz.ntmps152
 go_wp2_with (first
  |(go_at_call 33;refine (zbd _ _).mono ?_;rintro e w' ⟨rfl,rfl⟩)
  |(go_at_call 56;refine (zaM _ _ _).mono ?_;rintro e w' ⟨rfl,rfl⟩))
 go_returns;exact ⟨rfl,rfl⟩
def zeV (n:Int):Int:=if n%65536=0 then 65536 else n%65536
theorem znq (n:Int):1≤zeV n∧zeV n≤65536:=by unfold zeV;split<;>omega
theorem zpO (n:Int) (w:World):Calls Tryz.prog 111 #[.int .i64 n] w fun e w'=>e=.returned (.int .i64 (zeV n))∧w'=w:=by
 unfold zeV
 by_cases h:n%65536=0
 ·rw [if_pos h];go_enter Tryz.func111,Tryz.ntmps111;go_wp2_with (go_at_call 33;refine (zbd _ _).mono ?_;rintro e w' ⟨rfl,rfl⟩);go_ret;exact ⟨rfl,rfl⟩
 ·rw [if_neg h];have h1:0<n%65536:=by omega
  clear h;go_enter Tryz.func111,Tryz.ntmps111;go_wp2_with (go_at_call 33;refine (zbd _ _).mono ?_;rintro e w' ⟨rfl,rfl⟩);go_ret;exact ⟨rfl,rfl⟩
end Go.Proofs.YtoijhhbiknhlnaaGreatDoor.K9
namespace Go.Proofs.YtoijhhbiknhlnaaGreatDoor.L25
set_option maxRecDepth 20000
open B4 C3 G6 I11 J23 K9 L24 M5 N8 P22 R15 T10 V12 W13
open Go.RowKit
set_option linter.unusedVariables false
def infV (nm:ByteArray) (m l c:Int):Nat→Value:=fun j=>if j=0 then .string nm else if j=1 then .int .i64 m else if j=2 then .int .i64 l else .int .i64 c
def SP (b:Nat) (nm:ByteArray) (I B:Nat→Int) (t:Bool) (Z:Nat→Nat→Int):List (Nat×(Nat→Value)):=
 [(6,iv (Z 20)),(1,fun _=>.bool (isB (Z 21 0))),(1,fun _=>Value.int .i64 (Z 22 0)),(1,fun _=>.pointer (some ⟨b,0,none⟩)),(1,fun _=>Value.int .i64 (Z 23 0)),(4,infV nm (I 0) (I 1) (I 2)),(6,iv B),(4,iv fun j=>I (j+3)),(1,fun _=>.bool t)]
def zft:Array Value:=#[.int .i64 2088960,.int .i64 2088962,.int .i64 2088963]
def zyW (w:World):Prop:=∃t fr,w.heap[1]? = some (.cells zft t fr)
def zfu:Array Value:=#[.string ⟨#[84,73,73]⟩,.string ⟨#[84,68,68]⟩,.string ⟨#[84,73,78]⟩,.string ⟨#[84,73,65]⟩,.string ⟨#[84,65,73]⟩]
def zgu (w:World):Prop:=∃t fr,w.heap[2]? = some (.cells zfu t fr)
def CT (w:World):Prop:=HasVec w∧HasPaths w∧zgu w∧zyW w
theorem zcH {w w':World} {g:Nat} {o:Obj} (h:w.heap[g]? = some o) (k:Below w.heap.size w w'):w'.heap[g]? = some o:=(k.block g (lt_of_block h)).trans h
theorem CT.next {w w':World} (h:CT w) (k:Below w.heap.size w w'):CT w':=by
 obtain ⟨⟨t0,f0,e0⟩,⟨t1,f1,e1⟩,⟨t2,f2,e2⟩,⟨t3,f3,e3⟩⟩:=h;exact ⟨⟨t0,f0,zcH e0 k⟩,⟨t1,f1,zcH e1 k⟩,⟨t2,f2,zcH e2 k⟩,⟨t3,f3,zcH e3 k⟩⟩
theorem CT.only {E:Nat→Prop} {w w':World} (h:CT w) (k:OnlyE E w w') (hE:∀b,E b→8≤b):CT w':=by
 obtain ⟨⟨t0,f0,e0⟩,⟨t1,f1,e1⟩,⟨t2,f2,e2⟩,⟨t3,f3,e3⟩⟩:=h;exact ⟨⟨t0,f0,k.obj e0 fun e=>absurd (hE _ e) (by decide)⟩,⟨t1,f1,k.obj e1 fun e=>absurd (hE _ e) (by decide)⟩,⟨t2,f2,k.obj e2 fun e=>absurd (hE _ e) (by decide)⟩,⟨t3,f3,k.obj e3 fun e=>absurd (hE _ e) (by decide)⟩⟩
def HasQ (w:World) (s b v c d:Nat) (bs:List Int) (nm:ByteArray) (I B:Nat→Int) (t:Bool) (Z:Nat→Nat→Int):Prop:=
 HasF 85 w s 25 (segs (SP b nm I B t Z))∧HasP w b v c d bs Z∧CT w∧(∀k,GZ k (Z k))∧(s≠b∧s≠v∧s≠c∧s≠d∧8≤s∧8≤b∧8≤v)∧zdh ((bs.length/8192:Nat):Int)=true∧bs.length/8192≠320
def EQ (s b v:Nat):Nat→Prop:=fun k=>k=s∨k=b∨k=v
theorem HasQ.next {w:World} {s b v c d:Nat} {bs:List Int} {nm:ByteArray} {I B:Nat→Int} {t:Bool} {Z:Nat→Nat→Int} (h:HasQ w s b v c d bs nm I B t Z) {w':World} (k:Below w.heap.size w w'):HasQ w' s b v c d bs nm I B t Z:=⟨h.1.next k,h.2.1.next k,h.2.2.1.next k,h.2.2.2⟩
theorem HasQ.good {w:World} {s b v c d:Nat} {bs:List Int} {nm:ByteArray} {I B:Nat→Int} {t:Bool} {Z:Nat→Nat→Int} (h:HasQ w s b v c d bs nm I B t Z):∀k,GZ k (Z k):=h.2.2.2.1
theorem HasQ.lt {w:World} {s b v c d:Nat} {bs:List Int} {nm:ByteArray} {I B:Nat→Int} {t:Bool} {Z:Nat→Nat→Int} (h:HasQ w s b v c d bs nm I B t Z):s<w.heap.size:=h.1.lt
theorem znr {s b v:Nat} {w w':World} (k:OnlyE (EX b v) w w'):OnlyE (EQ s b v) w w':=⟨k.1,k.2.1,k.2.2.1,k.size,fun i hi hE=>k.block i hi fun e=>hE (.inr e)⟩
theorem zcd {s b v:Nat} {w w':World} (k:Below w.heap.size w w'):OnlyE (EQ s b v) w w':=OnlyE.of k
theorem zbi {s b v:Nat} {w w':World} (k:OnlyE (EQ s b v) w w') (o:Nat) (x:Value):OnlyE (EQ s b v) w (w'.setCell ⟨s,o,none⟩ x):=k.set s o x (.inl rfl)
theorem HasQ.bus {w:World} {s b v c d:Nat} {bs:List Int} {nm:ByteArray} {I B:Nat→Int} {t:Bool} {Z:Nat→Nat→Int} (h:HasQ w s b v c d bs nm I B t Z) {w':World} {Z':Nat→Nat→Int} (p:HasP w' b v c d bs Z') (k:OnlyE (EX b v) w w') (g:∀k,GZ k (Z' k)) (e0:Z' 20=Z 20) (e1:Z' 21=Z 21) (e2:Z' 22=Z 22) (e3:Z' 23=Z 23):HasQ w' s b v c d bs nm I B t Z':=by
 obtain ⟨q1,q2,q3,q4,⟨n1,n2,n3,n4,n5,n6,n7⟩,q6,q7⟩:=h;refine ⟨?_,p,q3.only k (fun i e=>by rcases e with rfl|rfl<;>assumption),g,⟨n1,n2,n3,n4,n5,n6,n7⟩,q6,q7⟩;have e:SP b nm I B t Z'=SP b nm I B t Z:=by unfold SP;rw [e0,e1,e2,e3]
 rw [e];exact k.obj q1 (fun e=>by rcases e with e|e;exact n1 e;exact n2 e)
theorem HasQ.put {w:World} {s b v c d:Nat} {bs:List Int} {nm:ByteArray} {I B:Nat→Int} {t:Bool} {Z:Nat→Nat→Int} (h:HasQ w s b v c d bs nm I B t Z) {o:Nat} {x:Value} {nm':ByteArray} {I' B':Nat→Int} {t':Bool} {Z':Nat→Nat→Int} (p:HasF 85 (w.setCell ⟨s,o,none⟩ x) s 25 (segs (SP b nm' I' B' t' Z'))) (g:∀k,GZ k (Z' k)) (e:∀k,k<20→Z' k=Z k):HasQ (w.setCell ⟨s,o,none⟩ x) s b v c d bs nm' I' B' t' Z':=by
 obtain ⟨q1,q2,q3,q4,⟨n1,n2,n3,n4,n5,n6,n7⟩,q6,q7⟩:=h;have k:OnlyE (fun i=>i=s) w (w.setCell ⟨s,o,none⟩ x):=(OnlyE.of (Below.refl _ w)).set s o x rfl;refine ⟨p,?_,q3.only k (fun i e=>e▸n5),g,⟨n1,n2,n3,n4,n5,n6,n7⟩,q6,q7⟩;have z:HasP (w.setCell ⟨s,o,none⟩ x) b v c d bs Z:=by
  refine HasP.only q2 k (fun e=>n1 e.symm) (fun e=>n2 e.symm) (fun e=>n3 e.symm) (fun e=>n4 e.symm) (fun i e=>?_);subst e;exact ⟨Nat.lt_of_lt_of_le (by decide) n5,Nat.lt_of_lt_of_le (by decide) n5,Nat.lt_of_lt_of_le (by decide) n5⟩
 have ez:XP v c Z'=XP v c Z:=by
  unfold XP;rw [e 0 (by decide),e 2 (by decide),e 3 (by decide),e 4 (by decide),e 5 (by decide),e 7 (by decide),e 8 (by decide),e 9 (by decide),e 10 (by decide),e 11 (by decide),e 12 (by decide),e 13 (by decide),e 14 (by decide),e 15 (by decide),e 16 (by decide),e 17 (by decide)]
 unfold L24.HasP at z ⊢;rw [ez,e 18 (by decide),e 19 (by decide)];exact z
theorem up20 {Z:Nat→Nat→Int} {k:Nat} (g:Nat→Int) (hk:20≤k):∀j,j<20→upZ Z k g j=Z j:=fun j hj=>zeO hk Z g j hj
theorem zpP (f:Nat→Int) (i:Nat) (x:Int):updC (iv f) i (.int .i64 x)=iv (up f i x):=funext fun j=>by
 unfold updC iv up;split<;>rfl
theorem HasQ.reg {w:World} {s b v c d:Nat} {bs:List Int} {nm:ByteArray} {I B:Nat→Int} {t:Bool} {Z:Nat→Nat→Int} (h:HasQ w s b v c d bs nm I B t Z) (k:Nat) (hk:k<6):w.cell? ⟨s,k,none⟩=some (.int .i64 (Z 20 k)):=h.1.get 0 rfl k hk (a:=k) (by rw [zef,Nat.zero_add]) (by omega)
theorem HasQ.fast {w:World} {s b v c d:Nat} {bs:List Int} {nm:ByteArray} {I B:Nat→Int} {t:Bool} {Z:Nat→Nat→Int} (h:HasQ w s b v c d bs nm I B t Z):w.cell? ⟨s,6,none⟩=some (.bool (isB (Z 21 0))):=h.1.get1 1 rfl rfl (by decide)
theorem HasQ.last {w:World} {s b v c d:Nat} {bs:List Int} {nm:ByteArray} {I B:Nat→Int} {t:Bool} {Z:Nat→Nat→Int} (h:HasQ w s b v c d bs nm I B t Z):w.cell? ⟨s,7,none⟩=some (.int .i64 (Z 22 0)):=h.1.get1 2 rfl rfl (by decide)
theorem HasQ.buss {w:World} {s b v c d:Nat} {bs:List Int} {nm:ByteArray} {I B:Nat→Int} {t:Bool} {Z:Nat→Nat→Int} (h:HasQ w s b v c d bs nm I B t Z):w.cell? ⟨s,8,none⟩=some (.pointer (some ⟨b,0,none⟩)):=h.1.get1 3 rfl rfl (by decide)
theorem HasQ.cycs {w:World} {s b v c d:Nat} {bs:List Int} {nm:ByteArray} {I B:Nat→Int} {t:Bool} {Z:Nat→Nat→Int} (h:HasQ w s b v c d bs nm I B t Z):w.cell? ⟨s,9,none⟩=some (.int .i64 (Z 23 0)):=h.1.get1 4 rfl rfl (by decide)
theorem HasQ.name {w:World} {s b v c d:Nat} {bs:List Int} {nm:ByteArray} {I B:Nat→Int} {t:Bool} {Z:Nat→Nat→Int} (h:HasQ w s b v c d bs nm I B t Z):w.cell? ⟨s,10,none⟩=some (.string nm):=h.1.get 5 rfl 0 (by decide) rfl (by decide)
theorem HasQ.mode {w:World} {s b v c d:Nat} {bs:List Int} {nm:ByteArray} {I B:Nat→Int} {t:Bool} {Z:Nat→Nat→Int} (h:HasQ w s b v c d bs nm I B t Z):w.cell? ⟨s,11,none⟩=some (.int .i64 (I 0)):=h.1.get 5 rfl 1 (by decide) rfl (by decide)
theorem HasQ.leng {w:World} {s b v c d:Nat} {bs:List Int} {nm:ByteArray} {I B:Nat→Int} {t:Bool} {Z:Nat→Nat→Int} (h:HasQ w s b v c d bs nm I B t Z):w.cell? ⟨s,12,none⟩=some (.int .i64 (I 1)):=h.1.get 5 rfl 2 (by decide) rfl (by decide)
theorem HasQ.takes {w:World} {s b v c d:Nat} {bs:List Int} {nm:ByteArray} {I B:Nat→Int} {t:Bool} {Z:Nat→Nat→Int} (h:HasQ w s b v c d bs nm I B t Z):w.cell? ⟨s,13,none⟩=some (.int .i64 (I 2)):=h.1.get 5 rfl 3 (by decide) rfl (by decide)
theorem HasQ.beh {w:World} {s b v c d:Nat} {bs:List Int} {nm:ByteArray} {I B:Nat→Int} {t:Bool} {Z:Nat→Nat→Int} (h:HasQ w s b v c d bs nm I B t Z) (k:Nat) (hk:k<6) {a:Nat} (ha:14+k=a):w.cell? ⟨s,a,none⟩=some (.int .i64 (B k)):=h.1.get 6 rfl k hk (a:=a) ha (by omega)
theorem HasQ.oper {w:World} {s b v c d:Nat} {bs:List Int} {nm:ByteArray} {I B:Nat→Int} {t:Bool} {Z:Nat→Nat→Int} (h:HasQ w s b v c d bs nm I B t Z):w.cell? ⟨s,20,none⟩=some (.int .i64 (I 3)):=h.1.get 7 rfl 0 (by decide) rfl (by decide)
theorem HasQ.mask {w:World} {s b v c d:Nat} {bs:List Int} {nm:ByteArray} {I B:Nat→Int} {t:Bool} {Z:Nat→Nat→Int} (h:HasQ w s b v c d bs nm I B t Z):w.cell? ⟨s,21,none⟩=some (.int .i64 (I 4)):=h.1.get 7 rfl 1 (by decide) rfl (by decide)
theorem HasQ.farr {w:World} {s b v c d:Nat} {bs:List Int} {nm:ByteArray} {I B:Nat→Int} {t:Bool} {Z:Nat→Nat→Int} (h:HasQ w s b v c d bs nm I B t Z):w.cell? ⟨s,22,none⟩=some (.int .i64 (I 5)):=h.1.get 7 rfl 2 (by decide) rfl (by decide)
theorem HasQ.plac {w:World} {s b v c d:Nat} {bs:List Int} {nm:ByteArray} {I B:Nat→Int} {t:Bool} {Z:Nat→Nat→Int} (h:HasQ w s b v c d bs nm I B t Z):w.cell? ⟨s,23,none⟩=some (.int .i64 (I 6)):=h.1.get 7 rfl 3 (by decide) rfl (by decide)
theorem HasQ.onm {w:World} {s b v c d:Nat} {bs:List Int} {nm:ByteArray} {I B:Nat→Int} {t:Bool} {Z:Nat→Nat→Int} (h:HasQ w s b v c d bs nm I B t Z):w.cell? ⟨s,24,none⟩=some (.bool t):=h.1.get1 8 rfl rfl (by decide)
theorem HasQ.frz {w:World} {s b v c d:Nat} {bs:List Int} {nm:ByteArray} {I B:Nat→Int} {t:Bool} {Z:Nat→Nat→Int} (h:HasQ w s b v c d bs nm I B t Z) (k:Nat):w.frozen? ⟨s,k,none⟩=false:=h.1.frozen k
theorem HasQ.putR {w:World} {s b v c d:Nat} {bs:List Int} {nm:ByteArray} {I B:Nat→Int} {t:Bool} {Z:Nat→Nat→Int} (h:HasQ w s b v c d bs nm I B t Z) (k:Nat) (hk:k<6) (x:Int) (hx:GZ 20 (up (Z 20) k x)):HasQ (w.setCell ⟨s,k,none⟩ (.int .i64 x)) s b v c d bs nm I B t (setR Z k x):=by
 refine h.put ?_ (zaR h.good 20 _ hx) (up20 _ (by decide));have q:=h.1.put 0 rfl k hk (a:=k) (by rw [zef,Nat.zero_add]) (.int .i64 x);rw [zpP] at q;exact q
theorem HasQ.putC {w:World} {s b v c d:Nat} {bs:List Int} {nm:ByteArray} {I B:Nat→Int} {t:Bool} {Z:Nat→Nat→Int} (h:HasQ w s b v c d bs nm I B t Z) (x:Int):HasQ (w.setCell ⟨s,9,none⟩ (.int .i64 x)) s b v c d bs nm I B t (upZ Z 23 (oneV x)):=
 h.put (h.1.put1 4 rfl rfl (.int .i64 x)) (zaR h.good 23 _ trivial) (up20 _ (by decide))
theorem HasQ.putF {w:World} {s b v c d:Nat} {bs:List Int} {nm:ByteArray} {I B:Nat→Int} {t:Bool} {Z:Nat→Nat→Int} (h:HasQ w s b v c d bs nm I B t Z) (x:Bool):HasQ (w.setCell ⟨s,6,none⟩ (.bool x)) s b v c d bs nm I B t (upZ Z 21 (oneV (b2i x))):=by
 cases x with
 |false=>exact h.put (h.1.put1 1 rfl rfl (.bool false)) (zaR h.good 21 _ trivial) (up20 _ (by decide))
 |true=>exact h.put (h.1.put1 1 rfl rfl (.bool true)) (zaR h.good 21 _ trivial) (up20 _ (by decide))
theorem HasQ.putL {w:World} {s b v c d:Nat} {bs:List Int} {nm:ByteArray} {I B:Nat→Int} {t:Bool} {Z:Nat→Nat→Int} (h:HasQ w s b v c d bs nm I B t Z) (x:Int):HasQ (w.setCell ⟨s,7,none⟩ (.int .i64 x)) s b v c d bs nm I B t (upZ Z 22 (oneV x)):=
 h.put (h.1.put1 2 rfl rfl (.int .i64 x)) (zaR h.good 22 _ trivial) (up20 _ (by decide))
theorem HasQ.putB {w:World} {s b v c d:Nat} {bs:List Int} {nm:ByteArray} {I B:Nat→Int} {t:Bool} {Z:Nat→Nat→Int} (h:HasQ w s b v c d bs nm I B t Z) (k:Nat) (hk:k<6) (x:Int) {a:Nat} (ha:14+k=a):HasQ (w.setCell ⟨s,a,none⟩ (.int .i64 x)) s b v c d bs nm I (up B k x) t Z:=by
 refine h.put ?_ h.good (fun _ _=>rfl);have q:=h.1.put 6 rfl k hk (a:=a) ha (.int .i64 x);rw [zpP] at q;exact q
theorem HasQ.putI {w:World} {s b v c d:Nat} {bs:List Int} {nm:ByteArray} {I B:Nat→Int} {t:Bool} {Z:Nat→Nat→Int} (h:HasQ w s b v c d bs nm I B t Z) (k:Nat) (hk:k<4) (x:Int) {a:Nat} (ha:20+k=a):HasQ (w.setCell ⟨s,a,none⟩ (.int .i64 x)) s b v c d bs nm (up I (k+3) x) B t Z:=by
 refine h.put ?_ h.good (fun _ _=>rfl);have q:=h.1.put 7 rfl k hk (a:=a) ha (.int .i64 x);rw [zpP] at q;have e:SP b nm (up I (k+3) x) B t Z=(SP b nm I B t Z).set 7 (4,iv (up (fun j=>I (j+3)) k x)):=by
  have e2:(fun j=>up I (k+3) x (j+3))=up (fun j=>I (j+3)) k x:=funext fun j=>by
   unfold up
   by_cases e:j=k
   ·rw [if_pos e,if_pos (by omega)]
   ·rw [if_neg e,if_neg (by omega)]
  unfold SP;rw [e2,zbI I (k+3) 0 x (by omega),zbI I (k+3) 1 x (by omega),zbI I (k+3) 2 x (by omega)];rfl
 rw [e];exact q
theorem HasQ.putT {w:World} {s b v c d:Nat} {bs:List Int} {nm:ByteArray} {I B:Nat→Int} {t:Bool} {Z:Nat→Nat→Int} (h:HasQ w s b v c d bs nm I B t Z) (x:Bool):HasQ (w.setCell ⟨s,24,none⟩ (.bool x)) s b v c d bs nm I B x Z:=h.put (h.1.put1 8 rfl rfl (.bool x)) h.good (fun _ _=>rfl)
end Go.Proofs.YtoijhhbiknhlnaaGreatDoor.L25
namespace Go.Proofs.YtoijhhbiknhlnaaGreatDoor.O7
set_option maxRecDepth 20000
open Go.RowKit
def tbl:List (List UInt8×Int×Int):=[
 ([66,82,75],0,8),([79,82,65],6,7),([83,88,89],0,3),([83,84,48],2,4),
 ([84,83,66],3,6),([79,82,65],3,4),([65,83,76],3,6),([82,77,66,48],3,7),
 ([80,72,80],0,3),([79,82,65],2,2),([65,83,76],1,2),([78,79,80],0,2),
 ([84,83,66],9,7),([79,82,65],9,5),([65,83,76],9,7),([66,66,82,48],15,6),
 ([66,80,76],14,2),([79,82,65],7,7),([79,82,65],8,7),([83,84,49],2,4),
 ([84,82,66],3,6),([79,82,65],4,4),([65,83,76],4,6),([82,77,66,49],3,7),
 ([67,76,67],0,2),([79,82,65],11,5),([73,78,67],1,2),([78,79,80],0,2),
 ([84,82,66],9,7),([79,82,65],10,5),([65,83,76],10,7),([66,66,82,49],15,6),
 ([74,83,82],9,7),([65,78,68],6,7),([83,65,88],0,3),([83,84,50],2,4),
 ([66,73,84],3,4),([65,78,68],3,4),([82,79,76],3,6),([82,77,66,50],3,7),
 ([80,76,80],0,4),([65,78,68],2,2),([82,79,76],1,2),([78,79,80],0,2),
 ([66,73,84],9,5),([65,78,68],9,5),([82,79,76],9,7),([66,66,82,50],15,6),
 ([66,77,73],14,2),([65,78,68],7,7),([65,78,68],8,7),([78,79,80],0,2),
 ([66,73,84],4,4),([65,78,68],4,4),([82,79,76],4,6),([82,77,66,51],3,7),
 ([83,69,67],0,2),([65,78,68],11,5),([68,69,67],1,2),([78,79,80],0,2),
 ([66,73,84],10,5),([65,78,68],10,5),([82,79,76],10,7),([66,66,82,51],15,6),
 ([82,84,73],0,7),([69,79,82],6,7),([83,65,89],0,3),([84,77,65],2,4),
 ([66,83,82],14,8),([69,79,82],3,4),([76,83,82],3,6),([82,77,66,52],3,7),
 ([80,72,65],0,3),([69,79,82],2,2),([76,83,82],1,2),([78,79,80],0,2),
 ([74,77,80],9,4),([69,79,82],9,5),([76,83,82],9,7),([66,66,82,52],15,6),
 ([66,86,67],14,2),([69,79,82],7,7),([69,79,82],8,7),([84,65,77],2,5),
 ([67,83,76],0,3),([69,79,82],4,4),([76,83,82],4,6),([82,77,66,53],3,7),
 ([67,76,73],0,2),([69,79,82],11,5),([80,72,89],0,3),([78,79,80],0,2),
 ([78,79,80],0,2),([69,79,82],10,5),([76,83,82],10,7),([66,66,82,53],15,6),
 ([82,84,83],0,7),([65,68,67],6,7),([67,76,65],0,2),([78,79,80],0,2),
 ([83,84,90],3,4),([65,68,67],3,4),([82,79,82],3,6),([82,77,66,54],3,7),
 ([80,76,65],0,4),([65,68,67],2,2),([82,79,82],1,2),([78,79,80],0,2),
 ([74,77,80],12,7),([65,68,67],9,5),([82,79,82],9,7),([66,66,82,54],15,6),
 ([66,86,83],14,2),([65,68,67],7,7),([65,68,67],8,7),([84,73,73],16,17),
 ([83,84,90],4,4),([65,68,67],4,4),([82,79,82],4,6),([82,77,66,55],3,7),
 ([83,69,73],0,2),([65,68,67],11,5),([80,76,89],0,4),([78,79,80],0,2),
 ([74,77,80],13,7),([65,68,67],10,5),([82,79,82],10,7),([66,66,82,55],15,6),
 ([66,82,65],14,4),([83,84,65],6,7),([67,76,88],0,2),([84,83,84],17,7),
 ([83,84,89],3,4),([83,84,65],3,4),([83,84,88],3,4),([83,77,66,48],3,7),
 ([68,69,89],0,2),([66,73,84],2,2),([84,88,65],0,2),([78,79,80],0,2),
 ([83,84,89],9,5),([83,84,65],9,5),([83,84,88],9,5),([66,66,83,48],15,6),
 ([66,67,67],14,2),([83,84,65],7,7),([83,84,65],8,7),([84,83,84],19,8),
 ([83,84,89],4,4),([83,84,65],4,4),([83,84,88],5,4),([83,77,66,49],3,7),
 ([84,89,65],0,2),([83,84,65],11,5),([84,88,83],0,2),([78,79,80],0,2),
 ([83,84,90],9,5),([83,84,65],10,5),([83,84,90],10,5),([66,66,83,49],15,6),
 ([76,68,89],2,2),([76,68,65],6,7),([76,68,88],2,2),([84,83,84],18,7),
 ([76,68,89],3,4),([76,68,65],3,4),([76,68,88],3,4),([83,77,66,50],3,7),
 ([84,65,89],0,2),([76,68,65],2,2),([84,65,88],0,2),([78,79,80],0,2),
 ([76,68,89],9,5),([76,68,65],9,5),([76,68,88],9,5),([66,66,83,50],15,6),
 ([66,67,83],14,2),([76,68,65],7,7),([76,68,65],8,7),([84,83,84],20,8),
 ([76,68,89],4,4),([76,68,65],4,4),([76,68,88],5,4),([83,77,66,51],3,7),
 ([67,76,86],0,2),([76,68,65],11,5),([84,83,88],0,2),([78,79,80],0,2),
 ([76,68,89],10,5),([76,68,65],10,5),([76,68,88],11,5),([66,66,83,51],15,6),
 ([67,80,89],2,2),([67,77,80],6,7),([67,76,89],0,2),([84,68,68],16,17),
 ([67,80,89],3,4),([67,77,80],3,4),([68,69,67],3,6),([83,77,66,52],3,7),
 ([73,78,89],0,2),([67,77,80],2,2),([68,69,88],0,2),([78,79,80],0,2),
 ([67,80,89],9,5),([67,77,80],9,5),([68,69,67],9,7),([66,66,83,52],15,6),
 ([66,78,69],14,2),([67,77,80],7,7),([67,77,80],8,7),([84,73,78],16,17),
 ([67,83,72],0,3),([67,77,80],4,4),([68,69,67],4,6),([83,77,66,53],3,7),
 ([67,76,68],0,2),([67,77,80],11,5),([80,72,88],0,3),([78,79,80],0,2),
 ([78,79,80],0,2),([67,77,80],10,5),([68,69,67],10,7),([66,66,83,53],15,6),
 ([67,80,88],2,2),([83,66,67],6,7),([78,79,80],0,2),([84,73,65],16,17),
 ([67,80,88],3,4),([83,66,67],3,4),([73,78,67],3,6),([83,77,66,54],3,7),
 ([73,78,88],0,2),([83,66,67],2,2),([78,79,80],0,2),([78,79,80],0,2),
 ([67,80,88],9,5),([83,66,67],9,5),([73,78,67],9,7),([66,66,83,54],15,6),
 ([66,69,81],14,2),([83,66,67],7,7),([83,66,67],8,7),([84,65,73],16,17),
 ([83,69,84],0,2),([83,66,67],4,4),([73,78,67],4,6),([83,77,66,55],3,7),
 ([83,69,68],0,2),([83,66,67],11,5),([80,76,88],0,4),([78,79,80],0,2),
 ([78,79,80],0,2),([83,66,67],10,5),([73,78,67],10,7),([66,66,83,55],15,6)]
def zns (b:Nat):List UInt8×Int×Int:=tbl.getD b ([],0,0)
def nameL (b:Nat):List UInt8:=(zns b).1
def zcW (b:Nat):ByteArray:=⟨⟨nameL b⟩⟩
def zbH (b:Nat):Int:=(zns b).2.1
def zdZ (b:Nat):Int:=(zns b).2.2
def lensL:List Int:=[1,1,2,2,2,2,2,2,2,3,3,3,3,3,2,3,7,3,3,4,4]
def lenM (m:Int):Int:=lensL.getD m.toNat 0
def zce (b:Nat):Int:=lenM (zbH b)
theorem zhU:tbl.length=256:=by kernel_rfl
theorem zhb {p:Nat→Bool} (h:(List.range 256).all p=true) (b:Nat) (hb:b<256):p b=true:=by
 rw [List.all_eq_true] at h;exact h b (List.mem_range.2 hb)
theorem zpQ (b:Nat) (hb:b<256):0≤zbH b∧zbH b≤20:=by
 have h:(List.range 256).all (fun b=>decide (0≤zbH b∧zbH b≤20))=true:=by kernel_rfl
 simpa using zhb h b hb
theorem zyX (b:Nat) (hb:b<256):1≤zce b∧zce b≤7:=by
 have h:(List.range 256).all (fun b=>decide (1≤zce b∧zce b≤7))=true:=by kernel_rfl
 simpa using zhb h b hb
end Go.Proofs.YtoijhhbiknhlnaaGreatDoor.O7
