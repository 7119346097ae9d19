/- Texts put together. -/
import Derived.Test.YtoijhhbiknhlnaaGreatDoorCpuSpeedsJ32
import Derived.Test.YtoijhhbiknhlnaaGreatDoorCpuSpeedsJ01
import Derived.ChangeKeysEq
namespace Go.Proofs.YtoijhhbiknhlnaaGreatDoor.A2
set_option maxRecDepth 20000
open Go.RowKit
theorem b0:zad 0:=⟨by decide,by decide⟩
theorem zlR (p:Int) (on:Bool):zbL p 1 on%2=b01 on:=by
 unfold zbL b01;cases on<;>simp<;>omega
theorem zqb {P:Prop} [Decidable P] (h:P):b01 (decide P)=1:=by simp [b01,h]
theorem zug {P:Prop} [Decidable P] (h:¬P):b01 (decide P)=0:=by simp [b01,h]
def zzf (v:Int):Int:=v*2%512+v/256
def zzg (v:Int):Int:=v/2+v%2*256
theorem rol_step {x:Int} (q:Int) (hx:zad x):∃r s,doOf 10 0 x q=(r,s)∧zad r∧zad s∧r+256*(s%2)=zzf (x+256*(q%2)):=by
 refine ⟨_,_,rfl,?_,zaO _ (zbn _ _) f1,?_⟩
 ·obtain ⟨h0,h1⟩:=hx;exact ⟨by omega,by omega⟩
 ·rw [zlR];obtain ⟨h0,h1⟩:=hx;unfold zzf
  by_cases h:128≤x
  ·rw [zqb h];omega
  ·rw [zug h];omega
theorem ror_step {x:Int} (q:Int) (hx:zad x):∃r s,doOf 12 0 x q=(r,s)∧zad r∧zad s∧r+256*(s%2)=zzg (x+256*(q%2)):=by
 refine ⟨_,_,rfl,?_,zaO _ (zbn _ _) f1,?_⟩
 ·obtain ⟨h0,h1⟩:=hx;exact ⟨by omega,by omega⟩
 ·rw [zlR];obtain ⟨h0,h1⟩:=hx;unfold zzg
  by_cases h:x%2=1
  ·rw [zqb h];omega
  ·rw [zug h];omega
def zgl (p q:Int):Prop:=zad q∧q/4%16=p/4%16
theorem zbw {p q f:Int} (on:Bool) (h:zgl p q) (hf:zbf f):zgl p (zbL q f on):=by
 refine ⟨zaO on h.1 hf,?_⟩;rw [←h.2];unfold zbL;rcases hf with rfl|rfl|rfl|rfl<;>cases on<;>simp<;>omega
theorem zbS {p q:Int} (b:Int) (h:zgl p q):zgl p (nzOf q b):=by
 unfold nzOf;rw [zfv h.1];exact zbw _ (zbw _ h f128) f2
theorem zhj {p q:Int} (m:Int) (z:Bool) (h:zgl p q):zgl p (zpU q m z):=zbw _ (zbw _ (zbw _ h f128) f64) f2
theorem zhk (x y:Int):zad (x%16*16+y%16):=⟨by omega,by omega⟩
theorem zzh {a m p:Int} (hp:zad p):zad (zhA a m p).1∧zgl p (zhA a m p).2:=by
 have hk:zgl p p:=⟨hp,rfl⟩
 unfold zhA;split
 ·exact ⟨zhk _ _,zbw _ (zbS _ hk) f1⟩
 ·exact ⟨zaf _,zbw _ (zbw _ (zbS _ hk) f1) f64⟩
theorem zzi {a m p:Int} (hp:zad p):zad (zhB a m p).1∧zgl p (zhB a m p).2:=by
 have hk:zgl p p:=⟨hp,rfl⟩
 unfold zhB;split
 ·exact ⟨zhk _ _,zbS _ (zbw _ hk f1)⟩
 ·exact ⟨zaf _,zbw _ (zbw _ (zbS _ hk) f1) f64⟩
theorem zzj (op:Int) {a m p:Int} (ha:zad a) (hm:zad m) (hp:zad p):zad (doOf op a m p).1∧zgl p (doOf op a m p).2:=by
 have hk:zgl p p:=⟨hp,rfl⟩
 have m0:=hm.1;have m1:=hm.2;rcases zqa op with rfl|rfl|rfl|rfl|rfl|rfl|rfl|rfl|rfl|rfl|rfl|rfl|rfl|rfl|rfl|rfl|h|h
 ·exact ⟨zlK ha hm,zbS _ hk⟩
 ·exact ⟨zfw hm,zbS _ hk⟩
 ·exact ⟨zcN ha hm,zbS _ hk⟩
 ·exact zzh hp
 ·exact zzi hp
 ·exact ⟨ha,zbw _ (zbS _ hk) f1⟩
 ·exact ⟨ha,zhj _ _ hk⟩
 ·exact ⟨zlK ha hm,zhj _ _ hk⟩
 ·exact ⟨zpR hm ha,zhj _ _ hk⟩
 ·exact ⟨zaf _,zbw _ (zbS _ hk) f1⟩
 ·exact ⟨⟨by show 0≤m*2%256+p%2;omega,by show m*2%256+p%2<256;omega⟩,zbw _ (zbS _ hk) f1⟩
 ·exact ⟨⟨by show 0≤m/2;omega,by show m/2<256;omega⟩,zbw _ (zbS _ hk) f1⟩
 ·exact ⟨⟨by show 0≤m/2+p%2*128;omega,by show m/2+p%2*128<256;omega⟩,zbw _ (zbS _ hk) f1⟩
 ·exact ⟨zaf _,zbS _ hk⟩
 ·exact ⟨zaf _,zbS _ hk⟩
 ·exact ⟨hm,zbS _ hk⟩
 ·rw [zfD (.inl h)];exact ⟨ha,hk⟩
 ·rw [zfD (.inr h)];exact ⟨ha,hk⟩
end Go.Proofs.YtoijhhbiknhlnaaGreatDoor.A2
namespace Go.Proofs.YtoijhhbiknhlnaaGreatDoor
set_option maxRecDepth 20000
open Go.RowKit
set_option linter.unusedVariables false
def AlikeF (ks:List Nat) (a b:Act):Prop:=b.tmps.size=a.tmps.size∧b.defers=a.defers∧∀k,k ∈ ks→b.tmps[k]? = a.tmps[k]?
theorem AlikeF.refl (ks:List Nat) (a:Act):AlikeF ks a a:=⟨rfl,rfl,fun _ _=>rfl⟩
theorem AlikeF.trans {ks:List Nat} {a b c:Act} (h:AlikeF ks a b) (k:AlikeF ks b c):AlikeF ks a c:=⟨k.1.trans h.1,k.2.1.trans h.2.1,fun i hi=>(k.2.2 i hi).trans (h.2.2 i hi)⟩
theorem AlikeF.put {ks:List Nat} (a:Act) (e:Nat) (v:Value) (h:¬e ∈ ks):AlikeF ks a (a.put (some e) v):=by
 refine ⟨by simp [Act.put],rfl,fun k hk=>?_⟩;simp only [Act.put];rw [Array.getElem?_setIfInBounds_ne];intro e1;subst e1;exact h hk
def oneT (x:Nat) (ks:List Nat) (N:Nat) (s:List UInt8):Code→Option (Nat×Bool)
 |.region _ ⟨[o1,o2]⟩ false=>
  (match o1.dst,o1.op,o1.guard,o2.dst,o2.op,o2.guard with
   |some e1,.binOp .eql _ (.tmp y) (.const (.string l)) _,none,some d1,.assign (.tmp e2),none=>if (y==x&&e2==e1&&!ks.contains e1&&!ks.contains d1&&decide (e1<N)&&decide (d1<N))=true then some (d1,s==l.data.toList) else none
   |_,_,_,_,_,_=>none)
 |_=>none
theorem zqc {P:Program} {x d N:Nat} {b:Bool} {ks:List Nat} {nm:ByteArray} {c:Code} {Q:Exit→Act→World→Prop} {a:Act} {w:World} (hc:oneT x ks N nm.data.toList c=some (d,b))
  (hN:a.tmps.size=N) (hx:a.tmps[x]? = some (.string nm)) (h:∀a',AlikeF ks a a'→a'.tmps[d]? = some (.bool b)→Q .normal a' w):c.wp P Q a w:=by
 unfold oneT at hc;split at hc
 ·rename_i i o1 o2;split at hc
  ·rename_i e1 t1 y l r1 d1 e2 q1 q2 q3 q4 q5 q6;split at hc
   ·rename_i hb;simp only [Bool.and_eq_true,beq_iff_eq,decide_eq_true_eq] at hb;obtain ⟨⟨⟨⟨⟨rfl,rfl⟩,k1⟩,k2⟩,k3⟩,k4⟩:=hb;simp only [Option.some.injEq,Prod.mk.injEq] at hc;obtain ⟨rfl,rfl⟩:=hc;have ex:a.eval (.tmp y)=.string nm:=by
     show a.tmps.getD y undef=_;rw [Array.getD_eq_getD_getElem?,hx];rfl
    refine wp_region_list ?_;show wpList P _ Q [o1,o2] a w;refine wpList_plain q3 fun K hK=>?_
    unfold Oper.wp;have r1:(execOp a.eval o1).run P w=.ok (.value (.bool (nm.data.toList==l.data.toList))) w:=by
     unfold execOp;simp only [q2,ex];rw [show a.eval (.const (.string l))=.string l from rfl,show ∀t z z',eqGuard .eql t z z' (.string nm) (.string l)=pure () from fun _ _ _=>rfl];simp [binOp_string_eql,ByteArray.toList_eq]
    rw [r1,Oper.upon_value,q1];refine hK _ _ ?_;refine wpList_plain q6 fun K2 hK2=>?_
    unfold Oper.wp;have r2:(execOp (a.put (some e2) (.bool (nm.data.toList==l.data.toList))).eval o2).run P w=.ok (.value (.bool (nm.data.toList==l.data.toList))) w:=by
     unfold execOp;simp only [q5]
     rw [show (a.put (some e2) (.bool (nm.data.toList==l.data.toList))).eval (.tmp e2)=.bool (nm.data.toList==l.data.toList) from by
      show (a.tmps.setIfInBounds e2 _).getD e2 undef=_;rw [Array.getD_eq_getD_getElem?,Array.getElem?_setIfInBounds_self_of_lt (by rw [hN];exact k3)]
      rfl]
     simp
    rw [r2,Oper.upon_value,q4];refine hK2 _ _ (wpList_nil (h _ ((AlikeF.put _ _ _ (by simpa using k1)).trans (AlikeF.put _ _ _ (by simpa using k2))) ?_));show (((a.tmps.setIfInBounds e2 _).setIfInBounds d1 _))[d1]? = _;rw [Array.getElem?_setIfInBounds_self_of_lt (by rw [Array.size_setIfInBounds,hN];exact k4)]
   ·cases hc
  ·cases hc
 ·cases hc
def tstT (x:Nat) (ks:List Nat) (N:Nat) (s:List UInt8):Code→Option (Nat×Bool)
 |.seq c (.cond (.tmp d1) .skip c2)=>
  (match oneT x ks N s c,tstT x ks N s c2 with
   |some (d,b),some (d',b')=>if (d1==d&&d'==d)=true then some (d,b||b') else none
   |_,_=>none)
 |c=>oneT x ks N s c
theorem zqd {P:Program} {x N:Nat} {ks:List Nat} {nm:ByteArray} {w:World} (hxk:x ∈ ks):
  ∀(c:Code) (d:Nat) (b:Bool) (Q:Exit→Act→World→Prop) (a:Act),tstT x ks N nm.data.toList c=some (d,b)→a.tmps.size=N→a.tmps[x]? = some (.string nm)→(∀a',AlikeF ks a a'→a'.tmps[d]? = some (.bool b)→Q .normal a' w)→c.wp P Q a w:=by
 intro c
 induction c using tstT.induct x ks N nm.data.toList with
 |case1 c d1 c2 d b d' b' h2 h1 hb ih=>
  intro dd bb Q a hc hN hx h;unfold tstT at hc;rw [h1,h2] at hc;simp only [hb,if_true,Option.some.injEq,Prod.mk.injEq] at hc;obtain ⟨rfl,rfl⟩:=hc;simp only [Bool.and_eq_true,beq_iff_eq] at hb;obtain ⟨rfl,rfl⟩:=hb;refine wp_seq (zqc h1 hN hx fun a1 k1 k2=>?_);have ed:a1.eval (.tmp d')=.bool b:=by
   show a1.tmps.getD d' undef=_;rw [Array.getD_eq_getD_getElem?,k2];rfl
  refine wp_cond_split ed (fun ht=>?_) (fun hf=>?_)
  ·exact wp_skip (h a1 k1 (by rw [k2,ht];rfl))
  ·refine ih _ _ Q a1 h2 (k1.1.trans hN) ((k1.2.2 x hxk).trans hx) fun a2 k3 k4=>h a2 (k1.trans k3) ?_
   rw [k4,hf];rfl
 |case2 c d1 c2 d b d' b' h2 h1 hb ih=>
  intro dd bb Q a hc;unfold tstT at hc;rw [h1,h2] at hc;simp only [hb] at hc;simp at hc
 |case3 c d1 c2 hno ih=>
  intro dd bb Q a hc;unfold tstT at hc;split at hc
  ·rename_i p1 p2;exact (hno _ _ _ _ p1 p2).elim
  ·cases hc
 |case4 c hno=>
  intro dd bb Q a hc hN hx h;rw [tstT] at hc
  ·exact zqc hc hN hx h
  ·exact hno
def zjU (x:Nat) (ks:List Nat) (N:Nat) (s:List UInt8):Nat→Code→Bool
 |0,_=>true
 |k+1,.seq c (.cond (.tmp d) _ c2)=>(tstT x ks N s c==some (d,false))&&zjU x ks N s k c2
 |_+1,_=>false
def zcl:Nat→Code→Code
 |0,c=>c
 |k+1,.seq _ (.cond _ _ c2)=>zcl k c2
 |_+1,c=>c
theorem zkR {P:Program} {x N:Nat} {ks:List Nat} {nm:ByteArray} {w:World} {Q:Exit→Act→World→Prop} (hxk:x ∈ ks):
  ∀(k:Nat) (c:Code) (a:Act),zjU x ks N nm.data.toList k c=true→a.tmps.size=N→a.tmps[x]? = some (.string nm)→(∀a',AlikeF ks a a'→(zcl k c).wp P Q a' w)→c.wp P Q a w:=by
 intro k
 induction k with
 |zero=>intro c a _ _ _ h;exact h a (AlikeF.refl _ _)
 |succ k ih=>
  intro c a hc hN hx h;unfold zjU at hc;split at hc
  ·rename_i heq;cases heq
  ·rename_i k' c1 d t c2 heq;obtain rfl:k=k':=by omega
   simp only [Bool.and_eq_true,beq_iff_eq] at hc;refine wp_seq (zqd hxk c1 d false _ a hc.1 hN hx fun a1 k1 k2=>?_);have ed:a1.eval (.tmp d)=.bool false:=by
    show a1.tmps.getD d undef=_;rw [Array.getD_eq_getD_getElem?,k2];rfl
   exact wp_cond_false ed (ih c2 a1 hc.2 (k1.1.trans hN) ((k1.2.2 x hxk).trans hx) fun a2 k3=>h a2 (k1.trans k3))
  ·cases hc
def hitT (x:Nat) (ks:List Nat) (N:Nat) (s:List UInt8):Code→Bool
 |.seq c (.cond (.tmp d) _ _)=>tstT x ks N s c==some (d,true)
 |_=>false
def zcE:Code→Code
 |.seq _ (.cond _ b _)=>b
 |c=>c
theorem zzk {P:Program} {x N:Nat} {ks:List Nat} {nm:ByteArray} {w:World} {Q:Exit→Act→World→Prop} (hxk:x ∈ ks) (c:Code) (a:Act) (hc:hitT x ks N nm.data.toList c=true)
  (hN:a.tmps.size=N) (hx:a.tmps[x]? = some (.string nm)) (h:∀a',AlikeF ks a a'→(zcE c).wp P Q a' w):c.wp P Q a w:=by
 unfold hitT at hc;split at hc
 ·rename_i c1 d b c2;simp only [beq_iff_eq] at hc;refine wp_seq (zqd hxk c1 d true _ a hc hN hx fun a1 k1 k2=>?_);have ed:a1.eval (.tmp d)=.bool true:=by
   show a1.tmps.getD d undef=_;rw [Array.getD_eq_getD_getElem?,k2];rfl
  exact wp_cond_true ed (h a1 k1)
 ·cases hc
theorem zjV {P:Program} {x N:Nat} (ks:List Nat) (nm:ByteArray) {w:World} {Q:Exit→Act→World→Prop} (k:Nat) {c:Code} {a:Act} (hxk:ks.contains x=true) (hc:(zjU x ks N nm.data.toList k c&&hitT x ks N nm.data.toList (zcl k c))=true)
  (hN:a.tmps.size=N) (hx:a.tmps[x]? = some (.string nm)) (h:∀a',AlikeF ks a a'→(zcE (zcl k c)).wp P Q a' w):c.wp P Q a w:=by
 simp only [Bool.and_eq_true] at hc;have hxk':x ∈ ks:=by simpa using hxk
 exact zkR hxk' k c a hc.1 hN hx fun a1 k1=>zzk hxk' _ a1 hc.2 (k1.1.trans hN) ((k1.2.2 x hxk').trans hx) fun a2 k2=>h a2 (k1.trans k2)
theorem zqe (l:Array Value) {N:Nat} (h:l.size=N):l=((List.range N).map fun i=>l.getD i undef).toArray:=by
 apply Array.ext
 ·simp [h]
 ·intro i h1 h2;simp only [List.getElem_toArray,List.getElem_map,List.getElem_range];rw [Array.getD_eq_getD_getElem?,Array.getElem?_eq_getElem h1];rfl
def zaY (k:Nat):Code→Option Code
 |.block n c=>if n=k then some c else zaY k c
 |.loop c=>zaY k c
 |.scope c=>zaY k c
 |.seq a b=>match zaY k a with|some c=>some c|none=>zaY k b
 |.cond _ a b=>match zaY k a with|some c=>some c|none=>zaY k b
 |_=>none
def retI:Code→Option (Nat×Int)
 |.seq (.region _ ⟨[o]⟩ false) .ret=>
  (match o.dst,o.op,o.guard with
   |some d,.assign (.const (.int .i64 x)),none=>some (d,x)
   |_,_,_=>none)
 |_=>none
theorem zqf {P:Program} {d:Nat} {x:Int} {c:Code} {Q:Exit→Act→World→Prop} {a:Act} {w:World} (hc:retI c=some (d,x)) (h:Q .ret (a.put (some d) (.int .i64 x)) w):c.wp P Q a w:=by
 unfold retI at hc;split at hc
 ·rename_i i o;split at hc
  ·rename_i d1 x1 q1 q2 q3;simp only [Option.some.injEq,Prod.mk.injEq] at hc;obtain ⟨rfl,rfl⟩:=hc;refine wp_seq (wp_region_list ?_);show wpList P _ _ [o] a w;refine wpList_plain q3 fun K hK=>?_
   unfold Oper.wp;have r1:(execOp a.eval o).run P w=.ok (.value (.int .i64 x1)) w:=by
    unfold execOp;simp only [q2];rw [show a.eval (.const (.int .i64 x1))=.int .i64 x1 from rfl];simp
   rw [r1,Oper.upon_value,q1];exact hK _ _ (wpList_nil (wp_ret h))
  ·cases hc
 ·cases hc
theorem zlS {a:Act} {d:Nat} (v:Value) (h:d<a.tmps.size):(a.put (some d) v).tmps.getD d undef=v:=by
 show (a.tmps.setIfInBounds d v).getD d undef=v;rw [Array.getD_eq_getD_getElem?,Array.getElem?_setIfInBounds_self_of_lt h];rfl
end Go.Proofs.YtoijhhbiknhlnaaGreatDoor
