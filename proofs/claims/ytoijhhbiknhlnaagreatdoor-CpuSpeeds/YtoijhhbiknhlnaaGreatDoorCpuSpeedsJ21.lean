/- Texts put together. -/
import Derived.Test.YtoijhhbiknhlnaaGreatDoorCpuSpeedsJ01
namespace Go.Proofs.YtoijhhbiknhlnaaGreatDoor
set_option maxRecDepth 20000
open Go.RowKit
set_option linter.unusedVariables false
variable {P:Program} {md:Region.Mode} {Q:Exit→Act→World→Prop}
def zep (md:Region.Mode) (l:List Oper) (d:Nat→Bool):Prop:=∀(j:Nat) (o:Oper),l[j]? = some o→d j=true→∀e ∈ o.after,Region.binds md e=true→d e.on=true
def updD (d:Nat→Bool) (i:Nat):Nat→Bool:=fun j=>if j=i then true else d j
theorem zav (d:Nat→Bool) (i:Nat):updD d i i=true:=by simp [updD]
theorem zaw (d:Nat→Bool) {i j:Nat} (h:¬j=i):updD d i j=d j:=by simp [updD,h]
def zlI (md:Region.Mode) (l:List Oper):Nat→Nat→Nat→Bool
 |0,_,_=>false
 |n+1,i,p=>match l[p]? with|some o=>o.after.any (fun e=>Region.binds md e&&(e.on==i||zlI md l n i e.on))|none=>false
theorem zdK {l:List Oper} {d:Nat→Bool} (hc:zep md l d):∀(n i p:Nat),d p=true→zlI md l n i p=true→d i=true
 |0,_,_,_,h=>by cases h
 |n+1,i,p,hp,h=>by
  unfold zlI at h;cases ho:l[p]? with
  |none=>rw [ho] at h;cases h
  |some o=>
   rw [ho] at h;obtain ⟨e,he,hb⟩:=Array.any_eq_true'.1 h;simp only [Bool.and_eq_true,Bool.or_eq_true,beq_iff_eq] at hb;have k:=hc p o ho hp e he hb.1;rcases hb.2 with rfl|h2
   ·exact k
   ·exact zdK hc n i e.on k h2
theorem zag {l:List Oper} {d:Nat→Bool} (hc:zep md l d) {i:Nat} (hi:d i=false) (p:Nat) (n:Nat) (h:zlI md l n i p=true):d p=false:=by
 cases hd:d p with
 |false=>rfl
 |true=>rw [zdK hc n i p hd h] at hi;cases hi
def zfS (md:Region.Mode) (V:Nat→Value→Prop) (u:Nat→Value) (d:Nat→Bool):List Edge→Prop
 |[]=>True
 |e::rest=>(match Region.binds md e with|true=>V e.on (u e.on)∧d e.on=true|false=>True)∧zfS md V u d rest
theorem zfT {V:Nat→Value→Prop} {u:Nat→Value} {d:Nat→Bool}:∀es:List Edge,(∀e ∈ es,Region.binds md e=true→V e.on (u e.on)∧d e.on=true)→zfS md V u d es
 |[],_=>trivial
 |e::rest,h=>by
  refine ⟨?_,zfT rest fun x hx=>h x (List.mem_cons_of_mem _ hx)⟩;cases hb:Region.binds md e with
  |true=>exact h e (List.mem_cons_self ..) hb
  |false=>trivial
def zsv (A:Act) (dst:Option Tmp) (V:Value→Prop) (S:World→Prop) (x:Exit) (a':Act) (w':World):Prop:=∃v,x=.normal∧a'=A.put dst v∧V v∧S w'
theorem zab {A:Act} {dst:Option Tmp} {V:Value→Prop} {S:World→Prop} {a':Act} {w':World} (v:Value) (h:a'=A.put dst v) (r:V v) (b:S w'):zsv A dst V S .normal a' w':=⟨v,rfl,h,r,b⟩
def zyN (P:Program) (md:Region.Mode) (l:List Oper) (F:(Nat→Value)→Act) (V:Nat→Value→Prop) (S:(Nat→Bool)→World→Prop) (i:Nat) (o:Oper):Prop:=
 ∀(u:Nat→Value) (d:Nat→Bool) (w:World),d i=false→zep md l d→zfS md V u d o.after.toList→S d w→wpList P l.toArray (zsv (F u) o.dst (V i) (S (updD d i))) [o] (F u) w
def zgX (P:Program) (md:Region.Mode) (l:List Oper) (F:(Nat→Value)→Act) (V:Nat→Value→Prop) (S:(Nat→Bool)→World→Prop):Nat→List Oper→Prop
 |_,[]=>True
 |i,o::rest=>zyN P md l F V S i o∧zgX P md l F V S (i+1) rest
theorem zax {l:List Oper} {F:(Nat→Value)→Act} {V:Nat→Value→Prop} {S:(Nat→Bool)→World→Prop} {i:Nat}:zgX P md l F V S i []:=trivial
theorem zas {l rest:List Oper} {F:(Nat→Value)→Act} {V:Nat→Value→Prop} {S:(Nat→Bool)→World→Prop} {i:Nat} {o:Oper}
 (h:∀(u:Nat→Value) (d:Nat→Bool) (w:World),d i=false→zep md l d→zfS md V u d o.after.toList→S d w→wpList P l.toArray (zsv (F u) o.dst (V i) (S (updD d i))) [o] (F u) w) (k:zgX P md l F V S (i+1) rest):zgX P md l F V S i (o::rest):=⟨h,k⟩
theorem zjJ {l:List Oper} {F:(Nat→Value)→Act} {V:Nat→Value→Prop} {S:(Nat→Bool)→World→Prop}:∀(rest:List Oper) (k i:Nat) (o:Oper),zgX P md l F V S k rest→rest[i]? = some o→zyN P md l F V S (k+i) o
 |[],_,_,_,_,h=>by cases h
 |x::rest,k,0,o,hs,h=>by
  obtain rfl:x=o:=by simpa using h
  exact hs.1
 |x::rest,k,i+1,o,hs,h=>by
  have:=zjJ rest (k+1) i o hs.2 (by simpa using h)
  rwa [show k+1+i=k+(i+1) by omega] at this
def allV (V:Nat→Value→Prop) (u:Nat→Value):Nat→List Oper→Prop
 |_,[]=>True
 |i,_::rest=>V i (u i)∧allV V u (i+1) rest
theorem zgY {V:Nat→Value→Prop} {u:Nat→Value}:∀(rest:List Oper) (k:Nat),(∀i,i<rest.length→V (k+i) (u (k+i)))→allV V u k rest
 |[],_,_=>trivial
 |_::rest,k,h=>⟨h 0 (by simp),zgY rest (k+1) fun i hi=>by rw [show k+1+i=k+(i+1) by omega];exact h (i+1) (by simpa using hi)⟩
def zbE (L:Array Bool):Nat→Bool:=fun j=>L.getD j false
theorem zhQ {L:Array Bool} {i:Nat} (h:i<L.size):zbE (L.setIfInBounds i true)=updD (zbE L) i:=by
 funext j;unfold zbE updD
 by_cases e:j=i
 ·subst e;rw [if_pos rfl,Array.getD_eq_getD_getElem?,Array.getElem?_setIfInBounds_self_of_lt h];rfl
 ·rw [if_neg e,getD_set_ne false (fun k=>e k.symm)]
theorem zpn {l:List Oper} {a:Act} {V:Nat→Value→Prop} {S:(Nat→Bool)→World→Prop} (hS:zdD l=true) (hA:zeL md l=true) (hs:zgX P md l (zat a l 0) V S 0 l)
  (hQ:∀vals d w,(∀i,i<l.length→d i=true)→S d w→allV V vals 0 l→Q .normal (zat a l 0 vals) w):
  ∀(fuel:Nat) (L:Array Bool) (vals:Nat→Value) (w:World),L.size=l.length→zcj L≤fuel→zep md l (zbE L)→S (zbE L) w→(∀i,i<l.length→L.getD i true=true→V i (vals i))→wpAny P md l.toArray Q fuel L (zat a l 0 vals) w:=by
 intro fuel
 induction fuel with
 |zero=>
  intro L vals w hL hf hc hb hF;have all:=fun i (hi:i<l.length)=>zbO (L:=L) (by omega) i
  refine ⟨?_,hQ vals (zbE L) w (fun i hi=>by unfold zbE;rw [zbh (by omega) false true];exact all i hi) hb (zgY l 0 fun i hi=>by rw [Nat.zero_add];exact hF i hi (all i hi))⟩;apply List.eq_nil_iff_forall_not_mem.2;intro j hj;obtain ⟨u,o,ho,_⟩:=mem_ready.1 hj;rw [zbO (L:=L) (by omega) j] at u;cases u
 |succ fuel ih=>
  intro L vals w hL hf hc hb hF;refine ⟨fun e=>?_,fun i hi=>?_⟩
  ·have all:=zey hA e hL;exact hQ vals (zbE L) w (fun i hi=>by unfold zbE;rw [zbh (by omega) false true];exact all i hi) hb (zgY l 0 fun i hi=>by rw [Nat.zero_add];exact hF i hi (all i hi))
  ·obtain ⟨u,o,ho,hall⟩:=mem_ready.1 hi;have ho':l[i]? = some o:=by simpa using ho
   have hil:i<l.length:=by
    rcases Nat.lt_or_ge i l.length with k|k
    ·exact k
    ·rw [List.getElem?_eq_none k] at ho';cases ho'
   have hdi:zbE L i=false:=by
    unfold zbE;rw [zbh (by omega) false true];exact u
   have haw:∀e ∈ o.after,Region.binds md e=true→zbE L e.on=true:=fun e he hbd=>hall e he hbd
   have st:=zjJ l 0 i o hs ho' vals (zbE L) w (by rw [Nat.zero_add];exact hdi) hc (zfT _ fun e he hbd=>by
    have he':e ∈ o.after:=by simpa using he
    have h1:=zdf hA ho' e he' hbd;have h2:=hall e he' hbd;refine ⟨?_,h2⟩;rw [zbh (by omega) false true] at h2
    exact hF e.on (by omega) h2) hb
   have st2:wpOp P l.toArray Q i (fun a' w'=>∃v,a'=(zat a l 0 vals).put o.dst v∧V i v∧S (updD (zbE L) i) w') (zat a l 0 vals) w:=by
    unfold wpOp;rw [ho];unfold wpList at st;simp only [wpList,Nat.zero_add,zsv] at st;show if Region.wanted o (yielded l.toArray (zat a l 0 vals).tmps)=true then _ else _;split
    ·rename_i hw;rw [if_pos hw] at st;rcases st with st|⟨_,st⟩
     ·exact .inl (zim (fun a' w' ⟨v,_,h⟩=>⟨v,h⟩) (fun x a' w' hx ⟨v,h,_⟩=>absurd h hx) st)
     ·obtain ⟨a',w',v,h,_⟩:=st;cases h
    ·rename_i hw;rw [if_neg hw] at st;obtain ⟨v,_,h⟩:=st;exact ⟨v,h⟩
   refine wpOp_mono (fun a' w' ⟨v,ea,hr,hbw⟩=>?_) st2;subst ea;rw [zdE v l a 0 i o vals hS ho',Nat.zero_add];have hset:=zhQ (L:=L) (i:=i) (by omega);refine ih _ _ w' (by simpa using hL) (by have:=zcI u;omega) ?_ (by rw [hset];exact hbw) fun j hj hlist=>?_
   ·rw [hset];intro j x hx hj e he hbd
    by_cases ej:j=i
    ·subst ej;rw [ho'] at hx;cases hx
     by_cases ei:e.on=j
     ·rw [ei,zav]
     ·rw [zaw _ ei];exact haw e he hbd
    ·rw [zaw _ ej] at hj;have k:=hc j x hx hj e he hbd
     by_cases ei:e.on=i
     ·rw [ei,zav]
     ·rw [zaw _ ei];exact k
   ·by_cases e:j=i
    ·subst e;unfold updV;rw [if_pos rfl];exact hr
    ·unfold updV;rw [if_neg e];rw [getD_set_ne true (fun h=>e h.symm)] at hlist;exact hF j hj hlist
theorem zai {id:Nat} {a:Act} {w:World} {l:List Oper} (V:Nat→Value→Prop) (S:(Nat→Bool)→World→Prop) (F:(Nat→Value)→Act) (hF:∀u,zat a l 0 u=F u) (hm:P.follows .mixedOrders=true) (hS:zdD l=true) (hA:zeL .any l=true)
  (h0:∀d,(∀i,d i=false)→S d w.drew) (hs:zgX P .any l F V S 0 l)
  (hQ:∀u d w',(∀i,i<l.length→d i=true)→S d w'→allV V u 0 l→Q .normal (F u) w'):(Code.region id l.toArray true).wp P Q a w:=by
 obtain rfl:zat a l 0=F:=funext hF;refine wp_region_any hm ?_;have e:zat a l 0 (fun i=>((l[i]?).bind (·.dst)).elim undef fun d=>a.tmps.getD d undef)=a:=by
  have aux:∀(rest:List Oper) (k:Nat) (u:Nat→Value),(∀i o,rest[i]? = some o→∀d,o.dst=some d→u (k+i)=a.tmps.getD d undef)→zat a rest k u=a:=by
   intro rest
   induction rest with
   |nil=>intros;rfl
   |cons o rest ih=>
    intro k u h;show zat (a.put o.dst (u k)) rest (k+1) u=a;rw [zij a o.dst (u k) (fun x hx=>h 0 o rfl x hx)];exact ih (k+1) u fun i p hp d hd=>by rw [show k+1+i=k+(i+1) by omega];exact h (i+1) p (by simpa using hp) d hd
  refine aux l 0 _ fun i o ho d hd=>?_
  rw [Nat.zero_add,ho];simp [hd]
 have d0:∀i,zbE (Array.replicate l.toArray.size false) i=false:=fun i=>by
  unfold zbE;rw [Array.getD_eq_getD_getElem?,Array.getElem?_replicate];split<;>rfl
 have k:=zpn (Q:=Q) hS hA hs hQ l.toArray.size (Array.replicate l.toArray.size false) (fun i=>((l[i]?).bind (·.dst)).elim undef fun d=>a.tmps.getD d undef) w.drew (by simp) (by
  unfold zcj
  simp) (fun j o ho hj=>by rw [d0] at hj;cases hj) (h0 _ d0) (fun i hi h=>by
  rw [Array.getD_eq_getD_getElem?,Array.getElem?_replicate,if_pos (by simpa using hi)] at h
  cases h)
 rw [e] at k;exact k
def zbl (l:List Value) (i:Nat) (v:Value):Prop:=v=l.getD i undef
end Go.Proofs.YtoijhhbiknhlnaaGreatDoor
namespace Go.Proofs.YtoijhhbiknhlnaaGreatDoor
set_option maxRecDepth 20000
open Go.RowKit
set_option linter.unusedVariables false
variable {P:Program} {md:Region.Mode} {Q:Exit→Act→World→Prop}
def zsw (A:Act) (dst:Option Tmp) (V:Value→Prop) (S:Value→World→Prop) (x:Exit) (a':Act) (w':World):Prop:=∃v,x=.normal∧a'=A.put dst v∧V v∧S v w'
theorem zbk {A:Act} {dst:Option Tmp} {V:Value→Prop} {S:Value→World→Prop} {a':Act} {w':World} (v:Value) (h:a'=A.put dst v) (r:V v) (b:S v w'):zsw A dst V S .normal a' w':=⟨v,rfl,h,r,b⟩
def zyO (P:Program) (md:Region.Mode) (l:List Oper) (F:(Nat→Value)→Act) (V:Nat→Value→Prop) (S:(Nat→Value)→(Nat→Bool)→World→Prop) (i:Nat) (o:Oper):Prop:=
 ∀(u:Nat→Value) (d:Nat→Bool) (w:World),d i=false→zep md l d→zfS md V u d o.after.toList→S u d w→wpList P l.toArray (zsw (F u) o.dst (V i) (fun v=>S (updV u i v) (updD d i))) [o] (F u) w
def zgZ (P:Program) (md:Region.Mode) (l:List Oper) (F:(Nat→Value)→Act) (V:Nat→Value→Prop) (S:(Nat→Value)→(Nat→Bool)→World→Prop):Nat→List Oper→Prop
 |_,[]=>True
 |i,o::rest=>zyO P md l F V S i o∧zgZ P md l F V S (i+1) rest
theorem zmX {l:List Oper} {F:(Nat→Value)→Act} {V:Nat→Value→Prop} {S:(Nat→Value)→(Nat→Bool)→World→Prop} {i:Nat}:zgZ P md l F V S i []:=trivial
theorem zaG {l rest:List Oper} {F:(Nat→Value)→Act} {V:Nat→Value→Prop} {S:(Nat→Value)→(Nat→Bool)→World→Prop} {i:Nat} {o:Oper}
 (h:∀(u:Nat→Value) (d:Nat→Bool) (w:World),d i=false→zep md l d→zfS md V u d o.after.toList→S u d w→wpList P l.toArray (zsw (F u) o.dst (V i) (fun v=>S (updV u i v) (updD d i))) [o] (F u) w) (k:zgZ P md l F V S (i+1) rest):zgZ P md l F V S i (o::rest):=⟨h,k⟩
theorem zjK {l:List Oper} {F:(Nat→Value)→Act} {V:Nat→Value→Prop} {S:(Nat→Value)→(Nat→Bool)→World→Prop}:∀(rest:List Oper) (k i:Nat) (o:Oper),zgZ P md l F V S k rest→rest[i]? = some o→zyO P md l F V S (k+i) o
 |[],_,_,_,_,h=>by cases h
 |x::rest,k,0,o,hs,h=>by
  obtain rfl:x=o:=by simpa using h
  exact hs.1
 |x::rest,k,i+1,o,hs,h=>by
  have:=zjK rest (k+1) i o hs.2 (by simpa using h)
  rwa [show k+1+i=k+(i+1) by omega] at this
theorem zmY {l:List Oper} {a:Act} {V:Nat→Value→Prop} {S:(Nat→Value)→(Nat→Bool)→World→Prop} (hS:zdD l=true) (hA:zeL md l=true) (hs:zgZ P md l (zat a l 0) V S 0 l)
  (hQ:∀vals d w,(∀i,i<l.length→d i=true)→S vals d w→allV V vals 0 l→Q .normal (zat a l 0 vals) w):
  ∀(fuel:Nat) (L:Array Bool) (vals:Nat→Value) (w:World),L.size=l.length→zcj L≤fuel→zep md l (zbE L)→S vals (zbE L) w→(∀i,i<l.length→L.getD i true=true→V i (vals i))→wpAny P md l.toArray Q fuel L (zat a l 0 vals) w:=by
 intro fuel
 induction fuel with
 |zero=>
  intro L vals w hL hf hc hb hF;have all:=fun i (hi:i<l.length)=>zbO (L:=L) (by omega) i
  refine ⟨?_,hQ vals (zbE L) w (fun i hi=>by unfold zbE;rw [zbh (by omega) false true];exact all i hi) hb (zgY l 0 fun i hi=>by rw [Nat.zero_add];exact hF i hi (all i hi))⟩;apply List.eq_nil_iff_forall_not_mem.2;intro j hj;obtain ⟨u,o,ho,_⟩:=mem_ready.1 hj;rw [zbO (L:=L) (by omega) j] at u;cases u
 |succ fuel ih=>
  intro L vals w hL hf hc hb hF;refine ⟨fun e=>?_,fun i hi=>?_⟩
  ·have all:=zey hA e hL;exact hQ vals (zbE L) w (fun i hi=>by unfold zbE;rw [zbh (by omega) false true];exact all i hi) hb (zgY l 0 fun i hi=>by rw [Nat.zero_add];exact hF i hi (all i hi))
  ·obtain ⟨u,o,ho,hall⟩:=mem_ready.1 hi;have ho':l[i]? = some o:=by simpa using ho
   have hil:i<l.length:=by
    rcases Nat.lt_or_ge i l.length with k|k
    ·exact k
    ·rw [List.getElem?_eq_none k] at ho';cases ho'
   have hdi:zbE L i=false:=by
    unfold zbE;rw [zbh (by omega) false true];exact u
   have haw:∀e ∈ o.after,Region.binds md e=true→zbE L e.on=true:=fun e he hbd=>hall e he hbd
   have st:=zjK l 0 i o hs ho' vals (zbE L) w (by rw [Nat.zero_add];exact hdi) hc (zfT _ fun e he hbd=>by
    have he':e ∈ o.after:=by simpa using he
    have h1:=zdf hA ho' e he' hbd;have h2:=hall e he' hbd;refine ⟨?_,h2⟩;rw [zbh (by omega) false true] at h2
    exact hF e.on (by omega) h2) hb
   have st2:wpOp P l.toArray Q i (fun a' w'=>∃v,a'=(zat a l 0 vals).put o.dst v∧V i v∧S (updV vals i v) (updD (zbE L) i) w') (zat a l 0 vals) w:=by
    unfold wpOp;rw [ho];unfold wpList at st;simp only [wpList,Nat.zero_add,zsw] at st;show if Region.wanted o (yielded l.toArray (zat a l 0 vals).tmps)=true then _ else _;split
    ·rename_i hw;rw [if_pos hw] at st;rcases st with st|⟨_,st⟩
     ·exact .inl (zim (fun a' w' ⟨v,_,h⟩=>⟨v,h⟩) (fun x a' w' hx ⟨v,h,_⟩=>absurd h hx) st)
     ·obtain ⟨a',w',v,h,_⟩:=st;cases h
    ·rename_i hw;rw [if_neg hw] at st;obtain ⟨v,_,h⟩:=st;exact ⟨v,h⟩
   refine wpOp_mono (fun a' w' ⟨v,ea,hr,hbw⟩=>?_) st2;subst ea;rw [zdE v l a 0 i o vals hS ho',Nat.zero_add];have hset:=zhQ (L:=L) (i:=i) (by omega);refine ih _ _ w' (by simpa using hL) (by have:=zcI u;omega) ?_ (by rw [hset];exact hbw) fun j hj hlist=>?_
   ·rw [hset];intro j x hx hj e he hbd
    by_cases ej:j=i
    ·subst ej;rw [ho'] at hx;cases hx
     by_cases ei:e.on=j
     ·rw [ei,zav]
     ·rw [zaw _ ei];exact haw e he hbd
    ·rw [zaw _ ej] at hj;have k:=hc j x hx hj e he hbd
     by_cases ei:e.on=i
     ·rw [ei,zav]
     ·rw [zaw _ ei];exact k
   ·by_cases e:j=i
    ·subst e;unfold updV;rw [if_pos rfl];exact hr
    ·unfold updV;rw [if_neg e];rw [getD_set_ne true (fun h=>e h.symm)] at hlist;exact hF j hj hlist
theorem zhz {id:Nat} {a:Act} {w:World} {l:List Oper} (V:Nat→Value→Prop) (S:(Nat→Value)→(Nat→Bool)→World→Prop) (F:(Nat→Value)→Act) (hF:∀u,zat a l 0 u=F u) (hm:P.follows .mixedOrders=true) (hS:zdD l=true) (hA:zeL .any l=true)
  (h0:∀u d,(∀i,d i=false)→S u d w.drew) (hs:zgZ P .any l F V S 0 l)
  (hQ:∀u d w',(∀i,i<l.length→d i=true)→S u d w'→allV V u 0 l→Q .normal (F u) w'):(Code.region id l.toArray true).wp P Q a w:=by
 obtain rfl:zat a l 0=F:=funext hF;refine wp_region_any hm ?_;have e:zat a l 0 (fun i=>((l[i]?).bind (·.dst)).elim undef fun d=>a.tmps.getD d undef)=a:=by
  have aux:∀(rest:List Oper) (k:Nat) (u:Nat→Value),(∀i o,rest[i]? = some o→∀d,o.dst=some d→u (k+i)=a.tmps.getD d undef)→zat a rest k u=a:=by
   intro rest
   induction rest with
   |nil=>intros;rfl
   |cons o rest ih=>
    intro k u h;show zat (a.put o.dst (u k)) rest (k+1) u=a;rw [zij a o.dst (u k) (fun x hx=>h 0 o rfl x hx)];exact ih (k+1) u fun i p hp d hd=>by rw [show k+1+i=k+(i+1) by omega];exact h (i+1) p (by simpa using hp) d hd
  refine aux l 0 _ fun i o ho d hd=>?_
  rw [Nat.zero_add,ho];simp [hd]
 have d0:∀i,zbE (Array.replicate l.toArray.size false) i=false:=fun i=>by
  unfold zbE;rw [Array.getD_eq_getD_getElem?,Array.getElem?_replicate];split<;>rfl
 have k:=zmY (Q:=Q) hS hA hs hQ l.toArray.size (Array.replicate l.toArray.size false) (fun i=>((l[i]?).bind (·.dst)).elim undef fun d=>a.tmps.getD d undef) w.drew (by simp) (by
  unfold zcj
  simp) (fun j o ho hj=>by rw [d0] at hj;cases hj) (h0 _ _ d0) (fun i hi h=>by
  rw [Array.getD_eq_getD_getElem?,Array.getElem?_replicate,if_pos (by simpa using hi)] at h
  cases h)
 rw [e] at k;exact k
theorem zpo (u:Nat→Value) (i:Nat) (v:Value):updV u i v i=v:=by simp [updV]
theorem zfU (u:Nat→Value) {i j:Nat} (v:Value) (h:¬j=i):updV u i v j=u j:=by simp [updV,h]
end Go.Proofs.YtoijhhbiknhlnaaGreatDoor
