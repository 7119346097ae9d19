/- Texts put together. -/
import Derived.Test.YtoijhhbiknhlnaaGreatDoorCpuSpeedsJ01
import Derived.Test.YtoijhhbiknhlnaaGreatDoorCpuSpeedsJ24
import Derived.Test.YtoijhhbiknhlnaaGreatDoorCpuSpeedsJ25
import Derived.Test.YtoijhhbiknhlnaaGreatDoorCpuSpeedsJ26
namespace Go.Proofs.YtoijhhbiknhlnaaGreatDoor
set_option maxRecDepth 20000
theorem zvv (a b:Nat) (ha:a<2 ^ 62) (hb:b<2 ^ 62):bits .xor .i64 (a:Int) (b:Int)=((a ^^^ b:Nat):Int):=by
 have ha':a%2 ^ 64=a:=Nat.mod_eq_of_lt (by omega);have hb':b%2 ^ 64=b:=Nat.mod_eq_of_lt (by omega);have h:a ^^^ b<2 ^ 62:=Nat.xor_lt_two_pow ha hb;show IntKind.i64.wrap ((BitVec.ofInt 64 (a:Int) ^^^ BitVec.ofInt 64 (b:Int)).toNat:Nat)=_;rw [BitVec.ofInt_natCast,BitVec.ofInt_natCast,BitVec.toNat_xor,BitVec.toNat_ofNat,BitVec.toNat_ofNat,ha',hb'];exact zco _ (by omega) (by omega)
theorem znt (a b:Nat) (ha:a<2 ^ 62) (hb:b<2 ^ 62):bits .andNot .i64 (a:Int) (b:Int)=((a ^^^ (a &&& b):Nat):Int):=by
 have ha':a%2 ^ 64=a:=Nat.mod_eq_of_lt (by omega);have hb':b%2 ^ 64=b:=Nat.mod_eq_of_lt (by omega);have h:a ^^^ (a &&& b)<2 ^ 62:=Nat.xor_lt_two_pow ha (Nat.and_lt_two_pow _ hb);have e:BitVec.ofNat 64 a &&& ~~~ BitVec.ofNat 64 b=BitVec.ofNat 64 a ^^^ (BitVec.ofNat 64 a &&& BitVec.ofNat 64 b):=by
  ext i hi
  simp only [BitVec.getElem_and,BitVec.getElem_not,BitVec.getElem_xor];cases (BitVec.ofNat 64 a)[i]<;>cases (BitVec.ofNat 64 b)[i]<;>rfl
 show IntKind.i64.wrap ((BitVec.ofInt 64 (a:Int) &&& ~~~ BitVec.ofInt 64 (b:Int)).toNat:Nat)=_;rw [BitVec.ofInt_natCast,BitVec.ofInt_natCast,e,BitVec.toNat_xor,BitVec.toNat_and,BitVec.toNat_ofNat,BitVec.toNat_ofNat,ha',hb'];exact zco _ (by omega) (by omega)
def andB (a m:Int):Int:=((a.toNat &&& m.toNat:Nat):Int)
def orB (a m:Int):Int:=((a.toNat ||| m.toNat:Nat):Int)
def xorB (a m:Int):Int:=((a.toNat ^^^ m.toNat:Nat):Int)
def bicB (a m:Int):Int:=((a.toNat ^^^ (a.toNat &&& m.toNat):Nat):Int)
def zad (n:Int):Prop:=0≤n∧n<256
theorem zaf (n:Int):zad (n%256):=⟨by omega,by omega⟩
theorem zfv {n:Int} (h:zad n):n%256=n:=Int.emod_eq_of_lt h.1 h.2
theorem zfw {a m:Int} (hm:zad m):zad (andB a m):=
 ⟨by unfold andB;omega,by unfold andB;have:=Nat.and_lt_two_pow a.toNat (n:=8) (y:=m.toNat) (by have:=hm.1;have:=hm.2;omega);omega⟩
theorem zlK {a m:Int} (ha:zad a) (hm:zad m):zad (orB a m):=
 ⟨by unfold orB;omega,by unfold orB;have:=Nat.or_lt_two_pow (n:=8) (x:=a.toNat) (y:=m.toNat) (by have:=ha.1;have:=ha.2;omega) (by have:=hm.1;have:=hm.2;omega);omega⟩
theorem zcN {a m:Int} (ha:zad a) (hm:zad m):zad (xorB a m):=
 ⟨by unfold xorB;omega,by unfold xorB;have:=Nat.xor_lt_two_pow (n:=8) (x:=a.toNat) (y:=m.toNat) (by have:=ha.1;have:=ha.2;omega) (by have:=hm.1;have:=hm.2;omega);omega⟩
theorem zpR {a m:Int} (ha:zad a) (hm:zad m):zad (bicB a m):=by
 have h:=zcN ha (zfw (a:=a) hm);unfold xorB andB at h
 simpa [bicB] using h
theorem znu {a m:Int} (ha:zad a) (hm:zad m):bits .and .i64 a m=andB a m:=by
 obtain ⟨a,rfl⟩:=Int.eq_ofNat_of_zero_le ha.1;obtain ⟨m,rfl⟩:=Int.eq_ofNat_of_zero_le hm.1;have:=ha.2;have:=hm.2;rw [(zev a m (by omega) (by omega)).1];rfl
theorem or_B {a m:Int} (ha:zad a) (hm:zad m):bits .or .i64 a m=orB a m:=by
 obtain ⟨a,rfl⟩:=Int.eq_ofNat_of_zero_le ha.1;obtain ⟨m,rfl⟩:=Int.eq_ofNat_of_zero_le hm.1;have:=ha.2;have:=hm.2;rw [(zev a m (by omega) (by omega)).2];rfl
theorem zpS {a m:Int} (ha:zad a) (hm:zad m):bits .xor .i64 a m=xorB a m:=by
 obtain ⟨a,rfl⟩:=Int.eq_ofNat_of_zero_le ha.1;obtain ⟨m,rfl⟩:=Int.eq_ofNat_of_zero_le hm.1;have:=ha.2;have:=hm.2;rw [zvv a m (by omega) (by omega)];rfl
theorem zlL {a m:Int} (ha:zad a) (hm:zad m):bits .andNot .i64 a m=bicB a m:=by
 obtain ⟨a,rfl⟩:=Int.eq_ofNat_of_zero_le ha.1;obtain ⟨m,rfl⟩:=Int.eq_ofNat_of_zero_le hm.1;have:=ha.2;have:=hm.2;rw [znt a m (by omega) (by omega)];rfl
theorem ziB (n m:Int) (hm:zad m):bits .and .i64 n m=andB (n%256) m:=by
 obtain ⟨m,rfl⟩:=Int.eq_ofNat_of_zero_le hm.1;have hm2:=hm.2;have e:(BitVec.ofInt 64 n &&& BitVec.ofInt 64 (m:Int)).toNat=(n%256).toNat &&& m:=by
  rw [BitVec.toNat_and,BitVec.ofInt_natCast,BitVec.toNat_ofNat,Nat.mod_eq_of_lt (by omega:m<2 ^ 64),BitVec.toNat_ofInt];have h1:(n%256).toNat=(n%((2 ^ 64:Nat):Int)).toNat%2 ^ 8:=by omega
  have h2:m=m%2 ^ 8:=(Nat.mod_eq_of_lt (by omega)).symm;rw [h1];generalize (n%((2 ^ 64:Nat):Int)).toNat=x
  conv=>rhs;rw [h2,←Nat.and_mod_two_pow]
  exact (Nat.mod_eq_of_lt (Nat.and_lt_two_pow _ (by omega))).symm
 show IntKind.i64.wrap ((BitVec.ofInt 64 n &&& BitVec.ofInt 64 (m:Int)).toNat:Nat)=_;rw [e];have:=Nat.and_lt_two_pow (n%256).toNat (n:=8) (y:=m) (by omega);rw [zco _ (by omega) (by omega)];rfl
theorem zfx {P:Int→Prop} (h:∀x:Fin 256,P (x.val:Int)) (n:Int):P (n%256):=by
 have:=h ⟨(n%256).toNat,by omega⟩;have e:(((n%256).toNat:Nat):Int)=n%256:=by omega
 simpa only [e] using this
theorem zpT (n:Int):bits .and .i64 n 128=n/128%2*128:=by
 rw [ziB n 128 ⟨by decide,by decide⟩,zfx (P:=fun x=>andB x 128=x/128%2*128) (by decide +kernel) n];omega
theorem zyY (n:Int):bits .and .i64 n 64=n/64%2*64:=by
 rw [ziB n 64 ⟨by decide,by decide⟩,zfx (P:=fun x=>andB x 64=x/64%2*64) (by decide +kernel) n];omega
theorem and_8 (n:Int):bits .and .i64 n 8=n/8%2*8:=by
 rw [ziB n 8 ⟨by decide,by decide⟩,zfx (P:=fun x=>andB x 8=x/8%2*8) (by decide +kernel) n];omega
theorem and_2 (n:Int):bits .and .i64 n 2=n/2%2*2:=by
 rw [ziB n 2 ⟨by decide,by decide⟩,zfx (P:=fun x=>andB x 2=x/2%2*2) (by decide +kernel) n];omega
theorem and_127 (n:Int):bits .and .i64 n 127=n%128:=zbM 7 (by decide) n
def zbL (p f:Int) (on:Bool):Int:=p-p/f%2*f+if on=true then f else 0
def zbf (f:Int):Prop:=f=1∨f=2∨f=64∨f=128
theorem zaO {p f:Int} (on:Bool) (hp:zad p) (hf:zbf f):zad (zbL p f on):=by
 obtain ⟨h0,h1⟩:=hp;unfold zbL zad;rcases hf with rfl|rfl|rfl|rfl<;>cases on<;>simp<;>omega
theorem zbm {P:Int→Prop} (h:∀x:Fin 256,P (x.val:Int)) {n:Int} (hn:zad n):P n:=by
 have:=zfx h n
 rwa [zfv hn] at this
theorem zjO {f:Int} (hf:zbf f):zad f:=by rcases hf with rfl|rfl|rfl|rfl<;>exact ⟨by decide,by decide⟩
theorem zvw {p f:Int} (hp:zad p) (hf:zbf f):bits .or .i64 p f=zbL p f true:=by
 rw [or_B hp (zjO hf)];rcases hf with rfl|rfl|rfl|rfl
 ·exact zbm (P:=fun x=>orB x 1=zbL x 1 true) (by decide +kernel) hp
 ·exact zbm (P:=fun x=>orB x 2=zbL x 2 true) (by decide +kernel) hp
 ·exact zbm (P:=fun x=>orB x 64=zbL x 64 true) (by decide +kernel) hp
 ·exact zbm (P:=fun x=>orB x 128=zbL x 128 true) (by decide +kernel) hp
theorem zsC {p f:Int} (hp:zad p) (hf:zbf f):bits .andNot .i64 p f=zbL p f false:=by
 rw [zlL hp (zjO hf)];rcases hf with rfl|rfl|rfl|rfl
 ·exact zbm (P:=fun x=>bicB x 1=zbL x 1 false) (by decide +kernel) hp
 ·exact zbm (P:=fun x=>bicB x 2=zbL x 2 false) (by decide +kernel) hp
 ·exact zbm (P:=fun x=>bicB x 64=zbL x 64 false) (by decide +kernel) hp
 ·exact zbm (P:=fun x=>bicB x 128=zbL x 128 false) (by decide +kernel) hp
theorem set_set {p f g:Int} (x y:Bool) (hf:zbf f) (hg:zbf g) (h:f≠g):zbL (zbL p f x) g y=zbL (zbL p g y) f x:=by
 unfold zbL;rcases hf with rfl|rfl|rfl|rfl<;>rcases hg with rfl|rfl|rfl|rfl<;>first|exact absurd rfl h|(cases x<;>cases y<;>simp<;>omega)
theorem f1:zbf 1:=.inl rfl
theorem f2:zbf 2:=.inr (.inl rfl)
theorem f64:zbf 64:=.inr (.inr (.inl rfl))
theorem f128:zbf 128:=.inr (.inr (.inr rfl))
def nzOf (p b:Int):Int:=zbL (zbL (p%256) 128 (decide (128≤b%256))) 2 (decide (b%256=0))
def zpU (p m:Int) (z:Bool):Int:=zbL (zbL (zbL p 128 (decide (128≤m))) 64 (decide (m/64%2=1))) 2 z
def zdT (s:Int):Int:=if 9<s then s+6 else s
def zcS (s:Int):Int:=if 15<zdT s then 1 else 0
def zhV (a m p:Int):Int×Int:=
 let l:=a%16+m%16+p%2
 let h:=a/16+m/16+zcS l
 let r:=zdT h%16*16+zdT l%16
 (r,zbL (nzOf p r) 1 (decide (15<zdT h)))
def zud (a m p:Int):Int×Int:=
 let s:=a+m+p%2
 let r:=s%256
 (r,zbL (zbL (nzOf p r) 1 (decide (255<s))) 64 (decide (a/128=m/128)&&decide (r/128≠a/128)))
def zcD (s:Int):Int:=if s<0 then s-6 else s
def zbT (s:Int):Int:=if s<0 then 1 else 0
def zhW (a m p:Int):Int×Int:=
 let l:=a%16-m%16-1+p%2
 let h:=a/16-m/16-zbT l
 let r:=zcD h%16*16+zcD l%16
 (r,nzOf (zbL p 1 (decide (0≤h))) r)
def zue (a m p:Int):Int×Int:=
 let s:=a-m-1+p%2
 let r:=s%256
 (r,zbL (zbL (nzOf p r) 1 (decide (0≤s))) 64 (decide (a/128≠m/128)&&decide (r/128≠a/128)))
def zhA (a m p:Int):Int×Int:=if p/8%2=1 then zhV a m p else zud a m p
def zhB (a m p:Int):Int×Int:=if p/8%2=1 then zhW a m p else zue a m p
def doOf (op a m p:Int):Int×Int:=
 if op=0 then (orB a m,nzOf p (orB a m)) else
 if op=1 then (andB a m,nzOf p (andB a m)) else
 if op=2 then (xorB a m,nzOf p (xorB a m)) else
 if op=3 then zhA a m p else
 if op=4 then zhB a m p else
 if op=5 then (a,zbL (nzOf p (a-m)) 1 (decide (m≤a))) else
 if op=6 then (a,zpU p m (decide (andB a m=0))) else
 if op=7 then (orB a m,zpU p m (decide (orB a m=0))) else
 if op=8 then (bicB m a,zpU p m (decide (bicB m a=0))) else
 if op=9 then (m*2%256,zbL (nzOf p (m*2%256)) 1 (decide (128≤m))) else
 if op=10 then (m*2%256+p%2,zbL (nzOf p (m*2%256+p%2)) 1 (decide (128≤m))) else
 if op=11 then (m/2,zbL (nzOf p (m/2)) 1 (decide (m%2=1))) else
 if op=12 then (m/2+p%2*128,zbL (nzOf p (m/2+p%2*128)) 1 (decide (m%2=1))) else
 if op=13 then ((m+1)%256,nzOf p ((m+1)%256)) else
 if op=14 then ((m+255)%256,nzOf p ((m+255)%256)) else
 if op=15 then (m,nzOf p m) else (a,p)
theorem zbn (p b:Int):zad (nzOf p b):=zaO _ (zaO _ (zaf p) f128) f2
theorem zlM (p b:Int):nzOf p (b%256)=nzOf p b:=by unfold nzOf;rw [Int.emod_emod]
theorem zdv {p f:Int} (b:Int) (x:Bool) (hp:zad p) (hf:f=1∨f=64):nzOf (zbL p f x) b=zbL (nzOf p b) f x:=by
 have hF:zbf f:=by rcases hf with rfl|rfl;exact f1;exact f64
 have n2:f≠2:=by omega
 have n128:f≠128:=by omega
 unfold nzOf;rw [zfv hp,zfv (zaO x hp hF),set_set x _ hF f128 n128,set_set x _ hF f2 n2]
def b01 (x:Bool):Int:=if x=true then 1 else 0
theorem zfW {x:Int} (h:zad x):x.toNat.testBit 7=decide (x/128=1):=by
 have h0:=h.1;have h1:=h.2;rw [Nat.testBit_eq_decide_div_mod_eq]
 congr 1
 apply propext;constructor<;>intro h<;>omega
theorem zuf {x:Nat}:(((x &&& 128:Nat):Int) != 0)=x.testBit 7:=by
 have h:x &&& 128=(x/128%2)*128:=zif x 7;rw [h,Nat.testBit_eq_decide_div_mod_eq];have h:=Nat.mod_two_eq_zero_or_one (x/2 ^ 7);have h':x/128=x/2 ^ 7:=rfl;rw [h'];rcases h with h|h<;>simp [h]
theorem v_add {a m r:Int} (ha:zad a) (hm:zad m) (hr:zad r):
  (bits .and .i64 (bits .and .i64 (bits .xor .i64 a r) (bits .xor .i64 m r)) 128 != 0)=(decide (a/128=m/128)&&decide (r/128≠a/128)):=by
 rw [zpS ha hr,zpS hm hr,znu (zcN ha hr) (zcN hm hr),znu (zfw (zcN hm hr)) ⟨by decide,by decide⟩];unfold andB xorB;simp only [Int.toNat_natCast];show (((_ &&& 128:Nat):Int) != 0)=_;rw [zuf,Nat.testBit_and,Nat.testBit_xor,Nat.testBit_xor,zfW ha,zfW hm,zfW hr];have h1:a/128=0∨a/128=1:=by have:=ha.1;have:=ha.2;omega
 have h2:m/128=0∨m/128=1:=by have:=hm.1;have:=hm.2;omega
 have h3:r/128=0∨r/128=1:=by have:=hr.1;have:=hr.2;omega
 rcases h1 with h1|h1<;>rcases h2 with h2|h2<;>rcases h3 with h3|h3<;>rw [h1,h2,h3]<;>decide
theorem v_sub {a m r:Int} (ha:zad a) (hm:zad m) (hr:zad r):
  (bits .and .i64 (bits .and .i64 (bits .xor .i64 a m) (bits .xor .i64 a r)) 128 != 0)=(decide (a/128≠m/128)&&decide (r/128≠a/128)):=by
 rw [zpS ha hr,zpS ha hm,znu (zcN ha hm) (zcN ha hr),znu (zfw (zcN ha hr)) ⟨by decide,by decide⟩];unfold andB xorB;simp only [Int.toNat_natCast];show (((_ &&& 128:Nat):Int) != 0)=_;rw [zuf,Nat.testBit_and,Nat.testBit_xor,Nat.testBit_xor,zfW ha,zfW hm,zfW hr];have h1:a/128=0∨a/128=1:=by have:=ha.1;have:=ha.2;omega
 have h2:m/128=0∨m/128=1:=by have:=hm.1;have:=hm.2;omega
 have h3:r/128=0∨r/128=1:=by have:=hr.1;have:=hr.2;omega
 rcases h1 with h1|h1<;>rcases h2 with h2|h2<;>rcases h3 with h3|h3<;>rw [h1,h2,h3]<;>decide
end Go.Proofs.YtoijhhbiknhlnaaGreatDoor
namespace Go.Proofs.YtoijhhbiknhlnaaGreatDoor.L25
set_option maxRecDepth 20000
open B4 C3 G6 I11 J23 L24 M5 N8 O7 P22 R15 T10 V12 W13
open Go.RowKit
set_option linter.unusedVariables false
def orP (p f:Int):Int:=bits .or .i64 p f
def anP (p f:Int):Int:=bits .andNot .i64 p f
def hasF (p f:Int):Bool:=bits .and .i64 p f != 0
def entP (p:Int):Int:=bits .or .i64 (bits .andNot .i64 p 40) 4
theorem zlN {p f:Int} (hp:zad p) (hf:f=1∨f=2∨f=4∨f=8∨f=16∨f=32∨f=64∨f=128):zad (orP p f):=by
 rcases hf with rfl|rfl|rfl|rfl|rfl|rfl|rfl|rfl
 ·exact zbm (P:=fun x=>zad (orP x 1)) (by unfold zad orP;decide +kernel) hp
 ·exact zbm (P:=fun x=>zad (orP x 2)) (by unfold zad orP;decide +kernel) hp
 ·exact zbm (P:=fun x=>zad (orP x 4)) (by unfold zad orP;decide +kernel) hp
 ·exact zbm (P:=fun x=>zad (orP x 8)) (by unfold zad orP;decide +kernel) hp
 ·exact zbm (P:=fun x=>zad (orP x 16)) (by unfold zad orP;decide +kernel) hp
 ·exact zbm (P:=fun x=>zad (orP x 32)) (by unfold zad orP;decide +kernel) hp
 ·exact zbm (P:=fun x=>zad (orP x 64)) (by unfold zad orP;decide +kernel) hp
 ·exact zbm (P:=fun x=>zad (orP x 128)) (by unfold zad orP;decide +kernel) hp
theorem zjP {p f:Int} (hp:zad p) (hf:f=1∨f=2∨f=4∨f=8∨f=16∨f=32∨f=64∨f=128):zad (anP p f):=by
 rcases hf with rfl|rfl|rfl|rfl|rfl|rfl|rfl|rfl
 ·exact zbm (P:=fun x=>zad (anP x 1)) (by unfold zad anP;decide +kernel) hp
 ·exact zbm (P:=fun x=>zad (anP x 2)) (by unfold zad anP;decide +kernel) hp
 ·exact zbm (P:=fun x=>zad (anP x 4)) (by unfold zad anP;decide +kernel) hp
 ·exact zbm (P:=fun x=>zad (anP x 8)) (by unfold zad anP;decide +kernel) hp
 ·exact zbm (P:=fun x=>zad (anP x 16)) (by unfold zad anP;decide +kernel) hp
 ·exact zbm (P:=fun x=>zad (anP x 32)) (by unfold zad anP;decide +kernel) hp
 ·exact zbm (P:=fun x=>zad (anP x 64)) (by unfold zad anP;decide +kernel) hp
 ·exact zbm (P:=fun x=>zad (anP x 128)) (by unfold zad anP;decide +kernel) hp
theorem zvx {p:Int} (hp:zad p):zad (entP p):=zbm (P:=fun x=>zad (entP x)) (by unfold zad entP;decide +kernel) hp
def zea (m:Int):Bool:=m==6||m==7||m==8||m==12||m==13
def zhc (m x o:Int):Int:=if m=6 then zOf o x else if m=7∨m=8 then zOf o 0 else if m=12 then wOf o 0 else if m=13 then wOf o x else 0
def zjQ (m:Int):Bool:=m==6||m==7||m==8
def zkK (m a:Int):Int:=if zjQ m=true then zOf a 1 else wOf a 1
def zpV (m:Int):Bool:=m==3||m==4||m==5||m==6||m==7||m==8||m==9||m==10||m==11||m==12||m==13||m==15||m==17||m==18||m==19||m==20
def zfy (m x y o p:Int):Int:=
 if m=3∨m=15∨m=17 then zOf o 0 else if m=4∨m=18 then zOf o x else if m=5 then zOf o y else if m=9∨m=19 then wOf o 0 else if m=10∨m=20 then wOf o x
 else if m=11 then wOf o y else if m=6∨m=8∨m=12∨m=13 then wOf p 0 else if m=7 then wOf p y else 0
theorem zsD (m x y o p:Int):0≤zfy m x y o p∧zfy m x y o p≤65535:=by
 unfold zfy;have a:=zpC o 0;have b:=zpC o x;have c:=zpC o y;have d:=zhT o 0;have e:=zhT o x;have f:=zhT o y;have g:=zhT p 0;have i:=zhT p y
 repeat' split
 all_goals omega
def jn (x y:Int):Int:=x%256+256*(y%256)
def pV (bs:List Int) (Z:Nat→Nat→Int) (x y:Int):Int:=jn (rV bs Z x) (rV bs (rS Z x) y)
def pS (Z:Nat→Nat→Int) (x y:Int):Nat→Nat→Int:=rS (rS Z x) y
def nx (Z:Nat→Nat→Int):Nat→Nat→Int:=setR (rS Z (Z 20 5)) 5 ((Z 20 5+1)%65536)
def nV (bs:List Int) (Z:Nat→Nat→Int):Int:=rV bs Z (Z 20 5)
def nxN (Z:Nat→Nat→Int):Nat→Nat→Nat→Int
 |0=>Z
 |k+1=>nx (nxN Z k)
def behN (bs:List Int) (Z:Nat→Nat→Int):Nat→Nat→Int
 |0=>fun _=>0
 |k+1=>up (behN bs Z k) k (nV bs (nxN Z k))
def opF (m:Int) (B:Nat→Int):Int:=if 17≤m then jn (B 1) (B 2) else if m=15 then B 0 else if m=14 then 0 else jn (B 0) (B 1)
def mkF (m:Int) (B:Nat→Int):Int:=if 17≤m then B 0 else 0
def frF (m:Int) (B:Nat→Int):Int:=if m=15 then B 1 else if m=14 then B 0 else 0
def fN (bs:List Int) (Z:Nat→Nat→Int):Nat:=(nV bs Z).toNat
def f1 (bs:List Int) (Z:Nat→Nat→Int):Nat→Nat→Int:=cyc (nx Z) (zdZ (fN bs Z))
def fB (bs:List Int) (Z:Nat→Nat→Int):Nat→Int:=behN bs (f1 bs Z) (zce (fN bs Z)-1).toNat
def f2 (bs:List Int) (Z:Nat→Nat→Int):Nat→Nat→Int:=nxN (f1 bs Z) (zce (fN bs Z)-1).toNat
def fT (Z:Nat→Nat→Int):Bool:=hasF (Z 20 4) 32
def f3 (bs:List Int) (Z:Nat→Nat→Int):Nat→Nat→Int:=setR (f2 bs Z) 4 (anP (Z 20 4) 32)
def fM (bs:List Int) (Z:Nat→Nat→Int):Int:=zbH (fN bs Z)
def fO (bs:List Int) (Z:Nat→Nat→Int):Int:=opF (fM bs Z) (fB bs Z)
def fK (bs:List Int) (Z:Nat→Nat→Int):Int:=mkF (fM bs Z) (fB bs Z)
def fR (bs:List Int) (Z:Nat→Nat→Int):Int:=frF (fM bs Z) (fB bs Z)
def fA (bs:List Int) (Z:Nat→Nat→Int):Int:=zhc (fM bs Z) (Z 20 1) (fO bs Z)
def fQ (bs:List Int) (Z:Nat→Nat→Int):Int:=if zea (fM bs Z)=true then pV bs (f3 bs Z) (fA bs Z) (zkK (fM bs Z) (fA bs Z)) else 0
def f4 (bs:List Int) (Z:Nat→Nat→Int):Nat→Nat→Int:=if zea (fM bs Z)=true then pS (f3 bs Z) (fA bs Z) (zkK (fM bs Z) (fA bs Z)) else f3 bs Z
def fP (bs:List Int) (Z:Nat→Nat→Int):Int:=zfy (fM bs Z) (Z 20 1) (Z 20 2) (fO bs Z) (fQ bs Z)
def iF (m l c o k r p:Int):Nat→Int:=fun j=>if j=0 then m else if j=1 then l else if j=2 then c else if j=3 then o else if j=4 then k else if j=5 then r else p
def fI (bs:List Int) (Z:Nat→Nat→Int):Nat→Int:=iF (fM bs Z) (zce (fN bs Z)) (zdZ (fN bs Z)) (fO bs Z) (fK bs Z) (fR bs Z) (fP bs Z)
end Go.Proofs.YtoijhhbiknhlnaaGreatDoor.L25
