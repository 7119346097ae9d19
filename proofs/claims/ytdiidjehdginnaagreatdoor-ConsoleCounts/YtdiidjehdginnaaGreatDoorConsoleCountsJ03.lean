/- Texts put together. -/
import Derived.Test.YtdiidjehdginnaaGreatDoorConsoleCountsJ02
import Derived.Test.YtdiidjehdginnaaGreatDoorConsoleCountsJ01
import Derived.Test.YtdiidjehdginnaaGreatDoorProg
import Derived.WalkMore
import Derived.WalkKit
import Derived.Below
import Derived.OneCell
import Derived.Handy
namespace Go.Proofs.YtdiidjehdginnaaGreatDoor.L24
set_option maxHeartbeats 1000000
set_option maxRecDepth 20000
open C3 G6 R15 W13
open Go.RowKit
set_option linter.unusedVariables false
variable {bu lo rd st wr:Int} {L:List (Nat×(Nat→Value))} {bs:List Int} {b c d v:Nat} {f:Nat→Int} {E:Nat→Prop} {s s':Nat→Value} {w w':World}
def blens:List Nat:=[21,1,256,1,1,1,1,1,8192,8,514,244,4,2,4,10,1,1]
def IsB (L:List (Nat×(Nat→Value))):Prop:=L.map Prod.fst=blens
theorem IsB.off (h:IsB L) (k:Nat) {a:Nat} (ha:(blens.take k).sum=a):soff L k=a:=zAh h k ha
theorem IsB.set (h:IsB L) {k n:Nat} {f:Nat→Value} (hk:L[k]? = some (n,f)) (f':Nat→Value):IsB (L.set k (n,f')):=zum h hk f'
theorem zdP (h:w'.heap[c]? = w.heap[c]?) (o:Nat):w'.cell? ⟨c,o,none⟩=w.cell? ⟨c,o,none⟩:=by simp only [World.cell?,h]
def HasCard (w:World) (c d:Nat) (bs:List Int):Prop:=w.cell? ⟨c,0,none⟩=some (.slice (some ⟨d,0,none⟩) bs.length bs.length)∧Bytes 5 w d bs∧c<w.heap.size
theorem HasCard.next (h:HasCard w c d bs) (k:Below w.heap.size w w'):HasCard w' c d bs:=⟨(zdP (k.block c h.2.2) 0).trans h.1,h.2.1.next k,Nat.lt_of_lt_of_le h.2.2 k.size⟩
theorem HasCard.only (h:HasCard w c d bs) (k:OnlyE E w w') (hc:¬E c) (hd:¬E d):HasCard w' c d bs:=⟨(zdP (k.block c h.2.2 hc) 0).trans h.1,⟨k.obj h.2.1.1 hd,h.2.1.2⟩,Nat.lt_of_lt_of_le h.2.2 k.size⟩
def Tabs (w:World):Prop:=HasTab w∧HasPorts w∧HasMask w
def High (b:Nat):Prop:=1<b∧5<b∧2<b
theorem Tabs.next (h:Tabs w) (k:Below w.heap.size w w'):Tabs w':=⟨h.1.next k,h.2.1.next k,h.2.2.next k⟩
theorem Tabs.high (h:Tabs w) (k:w.heap.size≤b):High b:=⟨Nat.lt_of_lt_of_le h.1.pos k,Nat.lt_of_lt_of_le h.2.1.pos k,Nat.lt_of_lt_of_le h.2.2.pos k⟩
theorem Tabs.only (h:Tabs w) (k:OnlyE E w w') (hE:∀b,E b→High b):Tabs w':=by
 have p0:=h.1.pos;have p1:=h.2.1.pos;have p2:=h.2.2.pos;obtain ⟨⟨t0,f0,e0⟩,⟨t1,f1,e1⟩,⟨t2,f2,e2⟩⟩:=h;exact ⟨⟨t0,f0,k.obj e0 fun e=>Nat.lt_irrefl _ (hE _ e).1⟩,⟨t1,f1,k.obj e1 fun e=>Nat.lt_irrefl _ (hE _ e).2.1⟩,⟨t2,f2,k.obj e2 fun e=>Nat.lt_irrefl _ (hE _ e).2.2⟩⟩
def EX (b v:Nat):Nat→Prop:=fun k=>k=b∨k=v
theorem zbr (k:But b w w'):OnlyE (EX b v) w w':=⟨k.1,k.2.1,k.2.2.1,k.size,fun i hi hE=>k.block i hi fun e=>hE (.inl e)⟩
theorem zfA (k:Only v w w'):OnlyE (EX b v) w w':=⟨k.1,k.2.1,k.2.2.1,k.size,fun i hi hE=>k.block i hi fun e=>hE (.inr e)⟩
theorem zay (k:Below w.heap.size w w'):OnlyE (EX b v) w w':=OnlyE.of k
def HasX (w:World) (b v c d:Nat) (L:List (Nat×(Nat→Value))) (bs:List Int) (f:Nat→Int) (wr rd st lo bu:Int):Prop:=
 HasF 60 w b 9263 (segs L)∧HasM w v true f wr rd st lo bu∧HasCard w c d bs∧Tabs w∧IsB L∧L[1]? = some (1,fun _=>.pointer (some ⟨v,0,none⟩))∧L[6]? = some (1,fun _=>.pointer (some ⟨c,0,none⟩))∧(b≠v∧b≠c∧b≠d∧v≠c∧v≠d∧High b∧High v)∧(1≤bs.length/8192∧bs.length≤10000000)∧st≠0
theorem HasX.isB (h:HasX w b v c d L bs f wr rd st lo bu):IsB L:=h.2.2.2.2.1
theorem HasX.tabs (h:HasX w b v c d L bs f wr rd st lo bu):Tabs w:=h.2.2.2.1
theorem HasX.next (h:HasX w b v c d L bs f wr rd st lo bu) (k:Below w.heap.size w w'):HasX w' b v c d L bs f wr rd st lo bu:=⟨h.1.next k,h.2.1.next k,h.2.2.1.next k,h.2.2.2.1.next k,h.2.2.2.2⟩
theorem HasX.row (h:HasX w b v c d L bs f wr rd st lo bu) {L':List (Nat×(Nat→Value))} (k:But b w w') (h':HasF 60 w' b 9263 (segs L')) (y:IsB L') (y1:L'[1]? = L[1]?) (y6:L'[6]? = L[6]?):HasX w' b v c d L' bs f wr rd st lo bu:=by
 obtain ⟨q1,q2,q3,q4,q5,q6,q7,⟨n1,n2,n3,n4,n5,n6,n7⟩,q9,q10⟩:=h;have e:OnlyE (fun i=>i=b) w w':=⟨k.1,k.2.1,k.2.2.1,k.size,fun i hi hE=>k.block i hi hE⟩
 exact ⟨h',k.obj q2 (fun e=>n1 e.symm),q3.only e (fun e=>n2 e.symm) (fun e=>n3 e.symm),q4.only e (fun i e=>e▸n6),y,y1.trans q6,y6.trans q7,⟨n1,n2,n3,n4,n5,n6,n7⟩,q9,q10⟩
theorem HasX.vram (h:HasX w b v c d L bs f wr rd st lo bu) {f':Nat→Int} {wr' rd' st' lo' bu':Int} (k:Only v w w') (h':HasM w' v true f' wr' rd' st' lo' bu') (s:st'≠0):HasX w' b v c d L bs f' wr' rd' st' lo' bu':=by
 obtain ⟨q1,q2,q3,q4,q5,q6,q7,⟨n1,n2,n3,n4,n5,n6,n7⟩,q9,q10⟩:=h;have e:OnlyE (fun i=>i=v) w w':=⟨k.1,k.2.1,k.2.2.1,k.size,fun i hi hE=>k.block i hi hE⟩
 exact ⟨k.obj q1 n1,h',q3.only e (fun e=>n4 e.symm) (fun e=>n5 e.symm),q4.only e (fun i e=>e▸n7),q5,q6,q7,⟨n1,n2,n3,n4,n5,n6,n7⟩,q9,s⟩
theorem HasX.lay (h:HasX w b v c d L bs f wr rd st lo bu) (k:But b w w') (i:Nat) {n:Nat}  (hi:L[i]? = some (n,s)) (h':HasF 60 w' b 9263 (segs (L.set i (n,s')))) (i1:i≠1) (i6:i≠6):HasX w' b v c d (L.set i (n,s')) bs f wr rd st lo bu:=
 h.row k h' (h.isB.set hi s') (zaB rfl _ i1) (zaB rfl _ i6)
theorem zra (h:HasM w v true f wr rd st lo bu) (hs:st≠0):Calls Tryz.prog 101 #[.pointer (some ⟨v,0,none⟩)] w fun e w'=>e=Ending.returned (.bool false)∧Below w.heap.size w w':=by
 have K:=hide (zuA v f wr rd st lo bu w h);have hs2:(st==0)=false:=by simp [hs]
 clear h hs;go_enter Tryz.func101,Tryz.ntmps101;go_wp2_with (first|(go_at_call 169;refine K.out.mono ?_;rintro e w2 ⟨rfl,b2⟩;have B2:=hide b2;clear b2));go_ret;exact ⟨rfl,B2.out⟩
theorem zaP (h:HasX w b v c d L bs f wr rd st lo bu):Calls Tryz.prog 63 #[.pointer (some ⟨b,0,none⟩)] w fun e w'=>e=Ending.returned (.bool false)∧Below w.heap.size w w':=by
 obtain ⟨q1,q2,q3,q4,q5,q6,q7,q8,⟨p0,p1⟩,q10⟩:=h;have c1:=q1.get1 1 q6 (a:=21) (q5.off 1 rfl) (by decide);have c6:=q1.get1 6 q7 (a:=281) (q5.off 6 rfl) (by decide);have KP:=hide (zeT ⟨c,0,none⟩ (some ⟨d,0,none⟩) bs.length bs.length w (by omega) q3.1);have KN:=hide (zra q2 q10);have p2:(((bs.length/8192:Nat):Int)==0)=false:=by simp;omega
 generalize ((bs.length/8192:Nat):Int)=n at *;clear q1 q2 q3 q4 q5 q6 q7 q8 q10 p0 p1;go_enter Tryz.func63,Tryz.ntmps63
 go_wp2_with (first
  |(go_at_call 49;refine KP.out.mono ?_;rintro e w2 ⟨rfl,hw⟩;subst w2)
  |(go_at_call 101;refine KN.out.mono ?_;rintro e w2 ⟨rfl,b2⟩;have B2:=hide b2;clear b2))
 go_ret;exact ⟨rfl,B2.out⟩
theorem zrb {L : List (Nat × (Nat → Value))} {f : Nat → Int}  (h : HasX w b v c d L bs f wr rd st lo bu) {t t' : Nat → Value} {lag k : Int} (h12 : L[12]? = some (4, t)) (h17 : L[17]? = some (1, fun _ => Value.int .i64 lag)) (KA : ∀ w, Calls Tryz.prog 64 #[.agg (rowF t 4), .int .i64 lag] w fun e w' => e = Ending.returned (.tuple #[.agg (rowF t' 4), .int .i64 k]) ∧ Below w.heap.size w w') (hg : ∀ j, j < 4 → (t' j).oneCell' = true) (hk : ¬ 0 < k) :
    Calls Tryz.prog 31 #[.pointer (some ⟨b, 0, none⟩)] w fun e w' => e = Ending.returned (.tuple #[]) ∧ HasX w' b v c d ((L.set 12 (4, t')).set 17 (1, fun _ => Value.int .i64 0)) bs f wr rd st lo bu ∧ OnlyE (EX b v) w w' := by
  have MI := hide (zaP h)
  have HE := hide h
  have KA := hide KA
  have E12 := hide h12
  have E17 := hide h17
  have HB := hide h.isB
  have G1 := hide hg
  have ZO : Hid ((rowF t' 4).all (·.oneCell') = true) := hide (zea hg)
  have ZI : Hid ((Tryz.prog.info? 51).map (·.size) = some (rowF t' 4).size) := hide (by rw [zai]; kernel_rfl)
  have ZS : Hid ((#[.int .i64 0, .int .i64 0, .bool false, .int .i64 0] : Array Value).size = (rowF t' 4).size) := hide (by rw [zai]; rfl)
  have IT : Hid ((Tryz.prog.info? 51).map (·.size) = some (rowF t 4).size) := hide (by rw [zai]; kernel_rfl)
  clear h h12 h17 hg
  go_enter Tryz.func31, Tryz.ntmps31
  go_wp2_with (first | (go_at_call 63; refine MI.out.mono ?_; rintro e w1 ⟨rfl, b1⟩; have X1 := hide (HE.out.next b1); have B1 := hide (But.of (b := b) b1); clear b1 MI))
  have R12 := hide (X1.out.1.range 9241 4 (by decide))
  rw [zbh (X1.out.1.seg 12 E12.out (a := 9241) (HB.out.off 12 rfl))] at R12
  have HL := hide X1.out.1.lt
  have i17 := hide (X1.out.1.get1 17 E17.out (a := 9262) (HB.out.off 17 rfl) (by decide))
  generalize rowF t 4 = A at *
  refine zfk _ _ _ _ (show _ = ([_, _, _, _, _, _, _, _, _, _, _, _] ++ [_, _]) ++ [_] from rfl) #[.int .i64 0, .int .i64 0, .bool false, .int .i64 0] (rowF t' 4) 51 35 2 16 51 (by kernel_rfl) (by kernel_rfl) (by kernel_rfl) (by kernel_rfl) rfl rfl (by decide) rfl ZI.out ZS.out ZO.out ?_ ?_
  · intro a w
    set_option maxRecDepth 100000 in
    rfl
  apply Exists.intro
  refine ⟨fun W hW => ?_, ?_, ?_⟩
  · have j17 := zah ((hW.cell (p := ⟨b, 9262, none⟩) HL.out).trans i17.out) (Nat.lt_of_lt_of_le HL.out hW.size)
    haveI := zax W
    repeat (first
      | (refine wpQuiet_mid rfl 51 (.tmp 9) rfl b 9241 rfl A _ (fun w' ⟨x, hx⟩ => by rw [hx]; intro j y hy; rw [x.cell b _ (Nat.lt_of_lt_of_le HL.out hW.size), hW.cell (p := ⟨b, 9241 + j, none⟩) HL.out]; exact R12.out j y hy) Tryz.underlying51 rfl IT.out ?_; simp only [Act.put, List.setIfInBounds_toArray, List.set_cons_succ, List.set_cons_zero])
      | go_big_quiet_step ((go_at_call 64; exact zaL (KA.out _))))
    refine wpQuiet_nil ?_
    rfl
  · rfl
  intro g w3 b3 hg lg
  have M3 := hide hg
  have H3 := hide (X1.out.1.next b3)
  have B3 := hide (B1.out.andBelow b3)
  simp only [Act.put, List.setIfInBounds_toArray, List.set_cons_succ, List.set_cons_zero]
  clear b3 hg lg KA R12 i17 HL
  go_wp2_with (first
    | (refine wpList_load_row rfl 51 (.tmp 2) rfl g rfl _ _ _ _ M3.out Tryz.underlying51 rfl ZI.out ?_)
    | (refine zau rfl 51 (.tmp 22) (.tmp 20) rfl b 9241 4 t' rfl rfl H3.out (by decide) (by kernel_rfl) G1.out ?_
       refine zaj fun w4 hw4 => ?_
       have H4 : Hid (HasF 60 w4 b 9263 (segs (L.set 12 (4, t')))) := hide (by rw [hw4]; exact H3.out.lay 12 E12.out t' (HB.out.off 12 rfl))
       have B4 : Hid (But b w w4) := hide (by rw [hw4]; exact But.cells _ _ _ B3.out)
       have I4 := hide (HB.out.set E12.out t')
       have F17 := hide (zaB (k := 12) E17.out (4, t') (by decide))
       have c17 := H4.out.get1 17 F17.out (a := 9262) (I4.out.off 17 rfl) (by decide)
       have z17 := H4.out.frozen 9262
       have H5 := hide (H4.out.put1 17 F17.out (a := 9262) (I4.out.off 17 rfl) (.int .i64 0))
       have B5 := hide (B4.out.set 9262 (.int .i64 0))
       have I5 := hide (I4.out.set F17.out (fun _ => Value.int .i64 0))
       clear hw4 H3 B3 M3 H4 B4)
     )
  go_end0
  exact ⟨rfl, HE.out.row B5.out H5.out I5.out (zaB (zaB rfl _ (by decide)) _ (by decide)) (zaB (zaB rfl _ (by decide)) _ (by decide)), zbr B5.out⟩
theorem zlg (h:HasX w b v c d L bs f wr rd st lo bu) {t t':Nat→Value} {lag k:Int} (h12:L[12]? = some (4,t)) (h17:L[17]? = some (1,fun _=>Value.int .i64 lag)) (h13:L[13]? = some (2,s)) (KA:∀w,Calls Tryz.prog 64 #[.agg (rowF t 4),.int .i64 lag] w fun e w'=>e=Ending.returned (.tuple #[.agg (rowF t' 4),.int .i64 k])∧Below w.heap.size w w') (hg:∀j,j<4→(t' j).oneCell'=true) (hk:0<k)
  (KR:∀w,Calls Tryz.prog 65 #[.agg (rowF s 2),.int .i64 4,.bool true] w fun e w'=>e=Ending.returned (.agg (rowF s' 2))∧Below w.heap.size w w') (hs:∀j,j<2→(s' j).oneCell'=true):
  Calls Tryz.prog 31 #[.pointer (some ⟨b,0,none⟩)] w fun e w'=>e=Ending.returned (.tuple #[])∧HasX w' b v c d (((L.set 12 (4,t')).set 17 (1,fun _=>Value.int .i64 0)).set 13 (2,s')) bs f wr rd st lo bu∧OnlyE (EX b v) w w':=by
 have KR:=hide KR;have GS:=hide hs;have E5:Hid (((L.set 12 (4,t')).set 17 (1,fun _=>Value.int .i64 0))[13]? = some (2,s)):=hide (zaB (zaB h13 _ (by decide)) _ (by decide))
 have SG5:Hid (∀j,j<2→segs ((L.set 12 (4,t')).set 17 (1,fun _=>Value.int .i64 0)) (9245+j)=s j):=hide (fun j hj=>by
  have q:=zci ((L.set 12 (4,t')).set 17 (1,fun _=>Value.int .i64 0)) 13 2 s j E5.out hj;rw [((h.isB.set h12 t').set (zaB h17 _ (by decide)) _).off 13 (a:=9245) rfl] at q
  exact q)
 clear h13 hs;have MI:=hide (zaP h);have HE:=hide h;have KA:=hide KA;have E12:=hide h12;have E17:=hide h17;have HB:=hide h.isB;have G1:=hide hg;have ZO:Hid ((rowF t' 4).all (·.oneCell')=true):=hide (zea hg);have ZI:Hid ((Tryz.prog.info? 51).map (·.size)=some (rowF t' 4).size):=hide (by rw [zai];kernel_rfl);have ZS:Hid ((#[.int .i64 0,.int .i64 0,.bool false,.int .i64 0]:Array Value).size=(rowF t' 4).size):=hide (by rw [zai];rfl);have IT:Hid ((Tryz.prog.info? 51).map (·.size)=some (rowF t 4).size):=hide (by rw [zai];kernel_rfl);clear h h12 h17 hg;go_enter Tryz.func31,Tryz.ntmps31;go_wp2_with (first|(go_at_call 63;refine MI.out.mono ?_;rintro e w1 ⟨rfl,b1⟩;have X1:=hide (HE.out.next b1);have B1:=hide (But.of (b:=b) b1);clear b1 MI));have R12:=hide (X1.out.1.range 9241 4 (by decide));rw [zbh (X1.out.1.seg 12 E12.out (a:=9241) (HB.out.off 12 rfl))] at R12;have HL:=hide X1.out.1.lt;have i17:=hide (X1.out.1.get1 17 E17.out (a:=9262) (HB.out.off 17 rfl) (by decide));generalize rowF t 4=A at *;refine zfk _ _ _ _ (show _=([_,_,_,_,_,_,_,_,_,_,_,_]++[_,_])++[_] from rfl) #[.int .i64 0,.int .i64 0,.bool false,.int .i64 0] (rowF t' 4) 51 35 2 16 51 (by kernel_rfl) (by kernel_rfl) (by kernel_rfl) (by kernel_rfl) rfl rfl (by decide) rfl ZI.out ZS.out ZO.out ?_ ?_
 ·intro a w
  set_option maxRecDepth 100000 in
  rfl
 apply Exists.intro;refine ⟨fun W hW=>?_,?_,?_⟩
 ·have j17:=zah ((hW.cell (p:=⟨b,9262,none⟩) HL.out).trans i17.out) (Nat.lt_of_lt_of_le HL.out hW.size);haveI:=zax W
  repeat (first
   |(refine wpQuiet_mid rfl 51 (.tmp 9) rfl b 9241 rfl A _ (fun w' ⟨x,hx⟩=>by rw [hx];intro j y hy;rw [x.cell b _ (Nat.lt_of_lt_of_le HL.out hW.size),hW.cell (p:=⟨b,9241+j,none⟩) HL.out];exact R12.out j y hy) Tryz.underlying51 rfl IT.out ?_;simp only [Act.put,List.setIfInBounds_toArray,List.set_cons_succ,List.set_cons_zero])
   |go_big_quiet_step ((go_at_call 64;exact zaL (KA.out _))))
  refine wpQuiet_nil ?_;rfl
 ·rfl
 intro g w3 b3 hg lg;have M3:=hide hg;have H3:=hide (X1.out.1.next b3);have B3:=hide (B1.out.andBelow b3);simp only [Act.put,List.setIfInBounds_toArray,List.set_cons_succ,List.set_cons_zero];clear b3 hg lg KA R12 i17 HL
 go_wp2_with (first
  |(refine wpList_load_row rfl 51 (.tmp 2) rfl g rfl _ _ _ _ M3.out Tryz.underlying51 rfl ZI.out ?_)
  |(refine zau rfl 51 (.tmp 22) (.tmp 20) rfl b 9241 4 t' rfl rfl H3.out (by decide) (by kernel_rfl) G1.out ?_
    refine zaj fun w4 hw4=>?_
    have H4:Hid (HasF 60 w4 b 9263 (segs (L.set 12 (4,t')))):=hide (by rw [hw4];exact H3.out.lay 12 E12.out t' (HB.out.off 12 rfl));have B4:Hid (But b w w4):=hide (by rw [hw4];exact But.cells _ _ _ B3.out);have I4:=hide (HB.out.set E12.out t');have F17:=hide (zaB (k:=12) E17.out (4,t') (by decide));have c17:=H4.out.get1 17 F17.out (a:=9262) (I4.out.off 17 rfl) (by decide);have z17:=H4.out.frozen 9262;have H5:=hide (H4.out.put1 17 F17.out (a:=9262) (I4.out.off 17 rfl) (.int .i64 0));have B5:=hide (B4.out.set 9262 (.int .i64 0));have I5:=hide (I4.out.set F17.out (fun _=>Value.int .i64 0))
    clear hw4 H3 B3 M3 H4 B4)
  |(refine zaw rfl 53 (.tmp 30) rfl b 9245 rfl H5.out 2 (by decide) s SG5.out _ Tryz.underlying53 rfl (by kernel_rfl) ?_))
 refine (KR.out _).mono ?_;rintro e w5 ⟨rfl,b5⟩;have H6:=hide (H5.out.next b5);have B6:=hide (B5.out.andBelow b5);clear b5 KR H5 B5 SG5
 go_wp2_with (first
  |(refine zau rfl 53 (.tmp 34) (.tmp 32) rfl b 9245 2 s' rfl rfl H6.out (by decide) (by kernel_rfl) GS.out ?_
    refine zaj fun w7 hw7=>?_
    have H7:Hid (HasF 60 w7 b 9263 (segs (((L.set 12 (4,t')).set 17 (1,fun _=>Value.int .i64 0)).set 13 (2,s')))):=hide (by rw [hw7];exact H6.out.lay 13 E5.out s' (I5.out.off 13 rfl));have B7:Hid (But b w w7):=hide (by rw [hw7];exact But.cells _ _ _ B6.out)
    clear hw7 H6 B6))
 go_end0;exact ⟨rfl,HE.out.row B7.out H7.out (I5.out.set E5.out _) (zaB (zaB (zaB rfl _ (by decide)) _ (by decide)) _ (by decide)) (zaB (zaB (zaB rfl _ (by decide)) _ (by decide)) _ (by decide)),zbr B7.out⟩
theorem zxU (h:HasX w b v c d L bs f wr rd st lo bu) {s n x:Int} (h3:L[3]? = some (1,fun _=>Value.int .i64 s)) (hx:bits .or .i64 s n=x):
  Calls Tryz.prog 91 #[.pointer (some ⟨b,0,none⟩),.int .i64 n,.bool false] w fun e w'=>e=Ending.returned (.tuple #[])∧HasX w' b v c d (L.set 3 (1,fun _=>Value.int .i64 x)) bs f wr rd st lo bu∧OnlyE (EX b v) w w':=by
 have MI:=hide (zaP h);have HE:=hide h;have E3:=hide h3;have HB:=hide h.isB;clear h h3;go_enter Tryz.func91,Tryz.ntmps91
 go_wp2_with (first
  |(go_at_call 63;refine MI.out.mono ?_;rintro e w1 ⟨rfl,b1⟩;have X1:=hide (HE.out.next b1);have B1:=hide (But.of (b:=b) b1);clear b1 MI;have c3:=X1.out.1.get1 3 E3.out (a:=278) (HB.out.off 3 rfl) (by decide);have z3:=X1.out.1.frozen 278;have H5:=hide (X1.out.1.put1 3 E3.out (a:=278) (HB.out.off 3 rfl) (.int .i64 x));have B5:=hide (B1.out.set 278 (.int .i64 x));have I5:=hide (HB.out.set E3.out (fun _=>Value.int .i64 x)))
   )
 go_end0;exact ⟨rfl,HE.out.row B5.out H5.out I5.out (zaB rfl _ (by decide)) (zaB rfl _ (by decide)),zbr B5.out⟩
theorem zuB (h:HasX w b v c d L bs f wr rd st lo bu) {q n x:Int} (h3:L[3]? = some (1,fun _=>Value.int .i64 q)) (h13:L[13]? = some (2,s)) (hx:bits .or .i64 q n=x)
  (KR:∀w,Calls Tryz.prog 65 #[.agg (rowF s 2),.int .i64 2,.bool true] w fun e w'=>e=Ending.returned (.agg (rowF s' 2))∧Below w.heap.size w w') (hs:∀j,j<2→(s' j).oneCell'=true):
  Calls Tryz.prog 91 #[.pointer (some ⟨b,0,none⟩),.int .i64 n,.bool true] w fun e w'=>e=Ending.returned (.tuple #[])∧HasX w' b v c d ((L.set 3 (1,fun _=>Value.int .i64 x)).set 13 (2,s')) bs f wr rd st lo bu∧OnlyE (EX b v) w w':=by
 have KR:=hide KR;have GS:=hide hs;have E5:Hid ((L.set 3 (1,fun _=>Value.int .i64 x))[13]? = some (2,s)):=hide (zaB h13 _ (by decide))
 have SG5:Hid (∀j,j<2→segs (L.set 3 (1,fun _=>Value.int .i64 x)) (9245+j)=s j):=hide (fun j hj=>by
  have q:=zci (L.set 3 (1,fun _=>Value.int .i64 x)) 13 2 s j E5.out hj;rw [(h.isB.set h3 _).off 13 (a:=9245) rfl] at q
  exact q)
 clear h13 hs;have MI:=hide (zaP h);have HE:=hide h;have E3:=hide h3;have HB:=hide h.isB;clear h h3;go_enter Tryz.func91,Tryz.ntmps91
 go_wp2_with (first
  |(go_at_call 63;refine MI.out.mono ?_;rintro e w1 ⟨rfl,b1⟩;have X1:=hide (HE.out.next b1);have B1:=hide (But.of (b:=b) b1);clear b1 MI;have c3:=X1.out.1.get1 3 E3.out (a:=278) (HB.out.off 3 rfl) (by decide);have z3:=X1.out.1.frozen 278;have H5:=hide (X1.out.1.put1 3 E3.out (a:=278) (HB.out.off 3 rfl) (.int .i64 x));have B5:=hide (B1.out.set 278 (.int .i64 x));have I5:=hide (HB.out.set E3.out (fun _=>Value.int .i64 x)))
  |(refine zaw rfl 53 (.tmp 22) rfl b 9245 rfl H5.out 2 (by decide) s SG5.out _ Tryz.underlying53 rfl (by kernel_rfl) ?_))
 refine (KR.out _).mono ?_;rintro e w5 ⟨rfl,b5⟩;have H6:=hide (H5.out.next b5);have B6:=hide (B5.out.andBelow b5);clear b5 KR H5 B5 SG5
 go_wp2_with (first
  |(refine zau rfl 53 (.tmp 26) (.tmp 24) rfl b 9245 2 s' rfl rfl H6.out (by decide) (by kernel_rfl) GS.out ?_
    refine zaj fun w7 hw7=>?_
    have H7:Hid (HasF 60 w7 b 9263 (segs ((L.set 3 (1,fun _=>Value.int .i64 x)).set 13 (2,s')))):=hide (by rw [hw7];exact H6.out.lay 13 E5.out s' (I5.out.off 13 rfl));have B7:Hid (But b w w7):=hide (by rw [hw7];exact But.cells _ _ _ B6.out)
    clear hw7 H6 B6))
 go_end0;exact ⟨rfl,HE.out.row B7.out H7.out (I5.out.set E5.out _) (zaB (zaB rfl _ (by decide)) _ (by decide)) (zaB (zaB rfl _ (by decide)) _ (by decide)),zbr B7.out⟩
theorem zjU (h:HasX w b v c d L bs f wr rd st lo bu) {q x:Int} (h3:L[3]? = some (1,fun _=>Value.int .i64 q)) (h13:L[13]? = some (2,s)) (hx:q%128=x)
  (KR:∀w,Calls Tryz.prog 65 #[.agg (rowF s 2),.int .i64 2,.bool false] w fun e w'=>e=Ending.returned (.agg (rowF s' 2))∧Below w.heap.size w w') (hs:∀j,j<2→(s' j).oneCell'=true):
  Calls Tryz.prog 174 #[.pointer (some ⟨b,0,none⟩)] w fun e w'=>e=Ending.returned (.int .i64 x)∧HasX w' b v c d ((L.set 3 (1,fun _=>Value.int .i64 0)).set 13 (2,s')) bs f wr rd st lo bu∧OnlyE (EX b v) w w':=by
 have KR:=hide KR;have GS:=hide hs;have E5:Hid ((L.set 3 (1,fun _=>Value.int .i64 0))[13]? = some (2,s)):=hide (zaB h13 _ (by decide))
 have SG5:Hid (∀j,j<2→segs (L.set 3 (1,fun _=>Value.int .i64 0)) (9245+j)=s j):=hide (fun j hj=>by
  have q:=zci (L.set 3 (1,fun _=>Value.int .i64 0)) 13 2 s j E5.out hj;rw [(h.isB.set h3 _).off 13 (a:=9245) rfl] at q
  exact q)
 clear h13 hs;have HE:=hide h;have HB:=hide h.isB;have E3:=hide h3;have c3:=h.1.get1 3 h3 (a:=278) (h.isB.off 3 rfl) (by decide);have z3:=h.1.frozen 278;have H5:=hide (h.1.put1 3 h3 (a:=278) (h.isB.off 3 rfl) (.int .i64 0));have B5:=hide ((But.refl b w).set 278 (.int .i64 0));have I5:=hide (h.isB.set h3 (fun _=>Value.int .i64 0));have ea:bits .and .i64 q 127=x:=(zbt 7 (by decide) q).trans hx;clear h h3;go_enter Tryz.func174,Tryz.ntmps174
 go_wp2_with (first
  |(refine zaw rfl 53 (.tmp 17) rfl b 9245 rfl H5.out 2 (by decide) s SG5.out _ Tryz.underlying53 rfl (by kernel_rfl) ?_))
 refine (KR.out _).mono ?_;rintro e w5 ⟨rfl,b5⟩;have H6:=hide (H5.out.next b5);have B6:=hide (B5.out.andBelow b5);clear b5 KR H5 B5 SG5
 go_wp2_with (first
  |(refine zau rfl 53 (.tmp 21) (.tmp 19) rfl b 9245 2 s' rfl rfl H6.out (by decide) (by kernel_rfl) GS.out ?_
    refine zaj fun w7 hw7=>?_
    have H7:Hid (HasF 60 w7 b 9263 (segs ((L.set 3 (1,fun _=>Value.int .i64 0)).set 13 (2,s')))):=hide (by rw [hw7];exact H6.out.lay 13 E5.out s' (I5.out.off 13 rfl));have B7:Hid (But b w w7):=hide (by rw [hw7];exact But.cells _ _ _ B6.out)
    clear hw7 H6 B6))
 go_ret;exact ⟨by first|rfl|exact zat (by omega),HE.out.row B7.out H7.out (I5.out.set E5.out _) (zaB (zaB rfl _ (by decide)) _ (by decide)) (zaB (zaB rfl _ (by decide)) _ (by decide)),zbr B7.out⟩
end Go.Proofs.YtdiidjehdginnaaGreatDoor.L24
namespace Go.Proofs.YtdiidjehdginnaaGreatDoor.B4
set_option maxHeartbeats 1000000
set_option maxRecDepth 20000
open C3
open Go.RowKit
set_option linter.unusedVariables false
def zdc (k n:Int):Int:=if k=1 then n/3*2 else if k=2 then 64 else n
def zdd (k n l:Int):Int:=if k=1 then n/3*2 else if k=2 then 64+64*(l%4) else 0
def zeD (k n:Int):Int:=if k=1 then n/3 else if k=2 then 64 else n
def zde (n l p:Int):Int:=
 if zdb n=true∧0≤p then
  if p<64 then p%zdc (zda n) n else if p<128 then zdd (zda n) n l+p%zeD (zda n) n else -1
 else -1
def zgD (n l a:Int):Int:=if n=320∧8176≤a∧a<8180 then a-8176 else l
theorem znm {n:Int} (h:zdb n=true):1≤n∧n≤320:=by
 unfold zdb at h;rw [decide_eq_true_eq] at h;omega
theorem zgE {n:Int} (h:zdb n=true):(zda n=0∧n≤128)∨(zda n=1∧(n=48∨n=96))∨(zda n=2∧n=320):=by
 unfold zdb at h;rw [decide_eq_true_eq] at h;unfold zda;rcases h with h|h|h|h|h|h|h|h|h|h|h<;>subst h<;>decide
theorem zrc (k n:Int) (w:World) (n0:0≤n) (n1:n≤320):Calls Tryz.prog 225 #[.int .i64 k,.int .i64 n] w fun e w'=>e=.returned (.agg #[.int .i64 64,.int .i64 0,.int .i64 (zdc k n)])∧Below w.heap.size w w':=by
 unfold zdc
 by_cases h1:k=1
 ·subst h1;rw [if_pos rfl];go_enter Tryz.func225,Tryz.ntmps225;go_wp2;go_returns;exact ⟨rfl,(Below.refl _ w).alloc (Nat.le_refl _) _⟩
 ·rw [if_neg h1]
  by_cases h2:k=2
  ·subst h2;rw [if_pos rfl];go_enter Tryz.func225,Tryz.ntmps225;go_wp2;go_returns;exact ⟨rfl,(Below.refl _ w).alloc (Nat.le_refl _) _⟩
  ·rw [if_neg h2];go_enter Tryz.func225,Tryz.ntmps225;go_wp2;go_returns;exact ⟨rfl,(Below.refl _ w).alloc (Nat.le_refl _) _⟩
theorem zuC (l:Int) (w:World):Calls Tryz.prog 257 #[.int .i64 l] w fun e w'=>e=.returned (.int .i64 (l%4))∧w'=w:=by
 go_enter Tryz.func257,Tryz.ntmps257;go_wp2;go_ret;exact ⟨zat (zxC l),rfl⟩
theorem zrd (k n l:Int) (w:World) (n0:0≤n) (n1:n≤320):Calls Tryz.prog 226 #[.int .i64 k,.int .i64 n,.int .i64 l] w fun e w'=>e=.returned (.agg #[.int .i64 128,.int .i64 (zdd k n l),.int .i64 (zeD k n)])∧Below w.heap.size w w':=by
 unfold zdd zeD
 by_cases h1:k=1
 ·subst h1;rw [if_pos rfl,if_pos rfl];go_enter Tryz.func226,Tryz.ntmps226;go_wp2;go_returns;exact ⟨rfl,(Below.refl _ w).alloc (Nat.le_refl _) _⟩
 ·rw [if_neg h1,if_neg h1]
  by_cases h2:k=2
  ·subst h2;rw [if_pos rfl,if_pos rfl];have c:=hide (zuC l);go_enter Tryz.func226,Tryz.ntmps226;go_wp2_with fail;refine (c.out _).mono ?_;rintro e w1 ⟨rfl,hw⟩;subst w1;go_wp2_with fail;go_returns;exact ⟨rfl,(Below.refl _ w).alloc (Nat.le_refl _) _⟩
  ·rw [if_neg h2,if_neg h2];go_enter Tryz.func226,Tryz.ntmps226;go_wp2;go_returns;exact ⟨rfl,(Below.refl _ w).alloc (Nat.le_refl _) _⟩
theorem zre (n l a:Int) (w:World) (hT:HasTab w):Calls Tryz.prog 207 #[.int .i64 n,.int .i64 l,.int .i64 a] w fun e w'=>e=.returned (.int .i64 (zgD n l a))∧Below w.heap.size w w':=by
 have c:=hide (zhV n w hT);have kn:zdb n=true∧zda n=2↔n=320:=by
  constructor
  ·rintro ⟨h1,h2⟩;have:=zgE h1;omega
  ·rintro rfl;decide
 obtain ⟨q,hq⟩:∃q,q=zgD n l a:=⟨_,rfl⟩
 rw [←hq];unfold zgD at hq;generalize hk:zdb n=kw at *;generalize hd:zda n=kd at *;go_enter Tryz.func207,Tryz.ntmps207;go_wp2_with fail;refine c.out.mono ?_;rintro e w1 ⟨rfl,b1⟩;cases kw with
 |false=>
  rw [if_neg (by intro h;exact Bool.noConfusion (kn.2 h.1).1)] at hq;go_wp2_with fail;go_ret;exact ⟨zat (by first|rfl|exact hq.symm),b1⟩
 |true=>
  by_cases h2:kd=2
  ·have hn:=kn.1 ⟨rfl,h2⟩
   by_cases h3:8176≤a
   ·by_cases h4:a<8180
    ·rw [if_pos ⟨hn,h3,h4⟩] at hq;go_wp2_with fail;go_ret;exact ⟨zat (by first|rfl|exact hq.symm),b1⟩
    ·rw [if_neg (by omega)] at hq;go_wp2_with fail;go_ret;exact ⟨zat (by first|rfl|exact hq.symm),b1⟩
   ·rw [if_neg (by omega)] at hq;go_wp2_with fail;go_ret;exact ⟨zat (by first|rfl|exact hq.symm),b1⟩
  ·rw [if_neg (by intro h;exact h2 (kn.2 h.1).2)] at hq;go_wp2_with fail;go_ret;exact ⟨zat (by first|rfl|exact hq.symm),b1⟩
def zmh (i:Nat):Int:=if i=0 then 64 else if i=1 then 128 else 0
def zhZ (k n l:Int) (i:Nat):Int:=if i=0 then 0 else if i=1 then zdd k n l else 0
def zjV (k n:Int) (i:Nat):Int:=if i=0 then zdc k n else if i=1 then zeD k n else 0
theorem zuD (k n l:Int) (a b c:Nat) (i:Nat) (w:World) (n0:0≤n) (n1:n≤320) (hi:i≤2) (hk:Box 3 w a k) (hn:Box 3 w b n) (hl:Box 3 w c l):
  Calls Tryz.prog 224 #[.int .i64 (i:Int),.pointer (some ⟨a,0,none⟩),.pointer (some ⟨b,0,none⟩),.pointer (some ⟨c,0,none⟩)] w fun e w'=>
   e=.returned (.tuple #[.agg #[.int .i64 (zmh i),.int .i64 (zhZ k n l i),.int .i64 (zjV k n i)],.bool (decide (i<2))])∧Below w.heap.size w w':=by
 have kc:=hk.cell;have nc:=hn.cell;have lc:=hl.cell;have ka:=hk.lt;have na:=hn.lt;have la:=hl.lt;clear hk hn hl;rcases i with _|_|_|i
 ·have C:=hide (fun w=>zrc k n w n0 n1);go_enter Tryz.func224,Tryz.ntmps224;go_wp2_with fail;refine (C.out _).mono ?_;rintro e w1 ⟨rfl,b1⟩;have r0:=b1.block w.heap.size (by simp);rw [heap_alloc_new] at r0;have B1:=hide (((Below.refl w.heap.size w).alloc (Nat.le_refl _) _).trans (b1.mono (by simp)));have R0:=hide r0;clear r0 b1;go_wp2_with (first|(refine wpList_store_row rfl 292 (.tmp 5) (.tmp 12) rfl w.heap.size _ rfl rfl 292 _ R0.out (by kernel_rfl) rfl (by kernel_rfl) ?_))
  (try simp only [Exit.inBlock,Exit.then])
  refine bodyPost_ret (zaG rfl _ _ w.heap.size 292 _ (0,0) _ rfl (setRow_heap _ _ _ _ _ _ R0.out) Tryz.underlying292 rfl (by kernel_rfl)) rfl ?_;exact ⟨rfl,below_setRow B1.out (Nat.le_refl _) _⟩
 ·have C:=hide (fun w=>zrd k n l w n0 n1);go_enter Tryz.func224,Tryz.ntmps224;go_wp2_with fail;refine (C.out _).mono ?_;rintro e w1 ⟨rfl,b1⟩;have r0:=b1.block w.heap.size (by simp);rw [heap_alloc_new] at r0;have B1:=hide (((Below.refl w.heap.size w).alloc (Nat.le_refl _) _).trans (b1.mono (by simp)));have R0:=hide r0;clear r0 b1;go_wp2_with (first|(refine wpList_store_row rfl 292 (.tmp 5) (.tmp 18) rfl w.heap.size _ rfl rfl 292 _ R0.out (by kernel_rfl) rfl (by kernel_rfl) ?_))
  (try simp only [Exit.inBlock,Exit.then])
  refine bodyPost_ret (zaG rfl _ _ w.heap.size 292 _ (0,0) _ rfl (setRow_heap _ _ _ _ _ _ R0.out) Tryz.underlying292 rfl (by kernel_rfl)) rfl ?_;exact ⟨rfl,below_setRow B1.out (Nat.le_refl _) _⟩
 ·go_enter Tryz.func224,Tryz.ntmps224;go_wp2_with fail
  (try simp only [Exit.inBlock,Exit.then])
  refine bodyPost_ret (zaG rfl _ _ w.heap.size 292 _ (0,0) _ rfl (heap_alloc_new _ _) Tryz.underlying292 rfl (by kernel_rfl)) rfl ?_;exact ⟨rfl,(Below.refl _ w).alloc (Nat.le_refl _) _⟩
 ·omega
theorem zuE (n l p:Int) (w:World) (hT:HasTab w):Calls Tryz.prog 173 #[.int .i64 n,.int .i64 l,.int .i64 p] w fun e w'=>e=.returned (.int .i64 (zde n l p))∧Below w.heap.size w w':=by
 obtain ⟨q,hq⟩:∃q,q=zde n l p:=⟨_,rfl⟩
 rw [←hq];have HQ:=hide hq;have HT:=hide hT;clear hq hT;go_enter Tryz.func173,Tryz.ntmps173;go_wp2_with fail;go_step3;go_wp2_with fail;have wi:=w.alloc (.cells #[.int .i64 n] 3);obtain ⟨wa,hwa⟩:∃wa,wa=(w.alloc (.cells #[.int .i64 n] 3)).alloc (.cells #[.int .i64 l] 3):=⟨_,rfl⟩
 rw [←hwa];have ba:Below w.heap.size w wa:=by rw [hwa];exact ((Below.refl _ w).alloc (Nat.le_refl _) _).alloc (by simp) _
 have xn:Box 3 wa w.heap.size n:=by rw [hwa];exact heap_alloc2_old _ _ _
 have xl:Box 3 wa (w.heap.size+1) l:=by rw [hwa];exact heap_alloc2_new _ _ _
 refine (zhV n wa (HT.out.next ba)).mono ?_;rintro e w1 ⟨rfl,b1⟩;have BA:=hide (zaz ba b1);have XN:=hide (xn.next b1);have XL:=hide (xl.next b1);clear ba xn xl b1 hwa;obtain ⟨kw,hkw⟩:∃kw,kw=zdb n:=⟨_,rfl⟩
 obtain ⟨kd,hkd⟩:∃kd,kd=zda n:=⟨_,rfl⟩
 rw [←hkw,←hkd];have HKD:=hide hkd;clear hkd;cases kw with
 |false=>
  have hq:q = -1:=by rw [HQ.out];unfold zde;rw [←hkw];simp
  have HQ2:=hide hq;clear hq hkw;go_wp2_with fail
  try rw [Exit.noGoto_ret]
  go_ret;exact ⟨zat HQ2.out.symm,BA.out.alloc BA.out.size _⟩
 |true=>
  by_cases hp:p<0
  ·have hq:q = -1:=by rw [HQ.out];unfold zde;rw [if_neg (by omega)]
   have HQ2:=hide hq;clear hq hkw;go_wp2_with fail
   try rw [Exit.noGoto_ret]
   go_ret;exact ⟨zat HQ2.out.symm,BA.out.alloc BA.out.size _⟩
  ·have hq:q=if p<64 then p%zdc kd n else if p<128 then zdd kd n l+p%zeD kd n else -1:=by
    rw [HQ.out];unfold zde;rw [if_pos ⟨hkw.symm,by omega⟩,←HKD.out]
   have hn:=znm hkw.symm;have HQ2:=hide hq;have HN:=hide hn;have HKC:=hide (by have:=zgE hkw.symm;rw [←HKD.out] at this;exact this:(kd=0∧n≤128)∨(kd=1∧(n=48∨n=96))∨(kd=2∧n=320));clear hq hkw;go_wp2_with fail;go_step3;go_wp2_with fail;obtain ⟨wb,hwb⟩:∃wb,wb=w1.alloc (.cells #[.int .i64 kd] 3):=⟨_,rfl⟩
   rw [←hwb];have xb:Box 3 wb w1.heap.size kd:=by rw [hwb];exact heap_alloc_new _ _
   have bb:Below w1.heap.size w1 wb:=by rw [hwb];exact (Below.refl _ w1).alloc (Nat.le_refl _) _
   have xn:=XN.out.next bb;have xl:=XL.out.next bb;have BB:=hide (zaz BA.out bb);have le1:=BA.out.size;clear bb hwb XN XL BA;generalize w1.heap.size=g1 at *;go_loopw [10] (fun si wr=>∃j:Nat,j≤2∧si=.int .i64 (j:Int)∧(0<j→64≤p)∧(1<j→128≤p)∧Box 3 wr g1 kd∧Box 3 wr w.heap.size n∧Box 3 wr (w.heap.size+1) l∧Below w.heap.size w wr) (fun si _=>2-(intOf si).toNat)
   case atStart=>exact ⟨0,by omega,rfl,fun h=>absurd h (by omega),fun h=>absurd h (by omega),xb,xn,xl,BB.out⟩
   case round=>
    obtain ⟨j,hj,rfl,h0,h1,xb,xn,xl,bl⟩:=hrel;have BL:=hide bl;have C:=hide (zuD kd n l _ _ _ j _ (by omega) (by omega) hj xb xn xl);have XB:=hide xb;have XN:=hide xn;have XL:=hide xl;clear xb xn xl bl;go_wp2_with fail;refine C.out.mono ?_;rintro e w2 ⟨rfl,b2⟩;have BL2:=hide (zaz BL.out b2);have XB2:=hide (XB.out.next b2);have XN2:=hide (XN.out.next b2);have XL2:=hide (XL.out.next b2);clear b2 XB XN XL BL C;rcases j with _|_|_|j
    ·obtain ⟨sz,hsz⟩:∃sz,sz=zdc kd n:=⟨_,rfl⟩
     have es:zjV kd n 0=sz:=hsz.symm;have s0:0<sz∧sz≤320:=by rw [hsz];unfold zdc;have:=HKC.out;split;omega;split<;>omega
     rw [es,show zmh 0=64 from rfl,show zhZ kd n l 0=0 from rfl,show decide (0<2)=true from rfl];have m0:=Int.emod_nonneg p (show sz≠0 by omega);have m1:=Int.emod_lt_of_pos p s0.1;have et:Int.tmod p sz=p%sz:=Int.tmod_eq_emod_of_nonneg (by omega);have HZ:=hide hsz;clear es hsz h0 h1
     by_cases hp2:p<64
     ·go_wp2_with fail;go_region
      all_goals (try go_wp2)
      try rw [Exit.noGoto_ret]
      go_ret;exact ⟨zat (by rw [HQ2.out,if_pos hp2,HZ.out]),(BL2.out.alloc BL2.out.size _).drew⟩
     ·go_wp2_with fail;go_roundw
      case rel=>exact ⟨0+1,by omega,by go_num,fun _=>by omega,fun _=>by omega,XB2.out.next ((Below.refl _ _).alloc (Nat.le_refl _) _),XN2.out.next ((Below.refl _ _).alloc (Nat.le_refl _) _),XL2.out.next ((Below.refl _ _).alloc (Nat.le_refl _) _),BL2.out.alloc BL2.out.size _⟩
      case measure=>simp [intOf]
    ·obtain ⟨sz,hsz⟩:∃sz,sz=zeD kd n:=⟨_,rfl⟩
     obtain ⟨fs,hfs⟩:∃fs,fs=zdd kd n l:=⟨_,rfl⟩
     have es:zjV kd n 1=sz:=hsz.symm;have ef:zhZ kd n l 1=fs:=hfs.symm;have s0:0<sz∧sz≤320:=by rw [hsz];unfold zeD;have:=HKC.out;split;omega;split<;>omega
     have f0:0≤fs∧fs≤320:=by rw [hfs];unfold zdd;have:=HKC.out;split;omega;split<;>omega
     rw [es,ef,show zmh 1=128 from rfl,show decide (1<2)=true from rfl];have m0:=Int.emod_nonneg p (show sz≠0 by omega);have m1:=Int.emod_lt_of_pos p s0.1;have et:Int.tmod p sz=p%sz:=Int.tmod_eq_emod_of_nonneg (by omega);have HZ:=hide hsz;have HF:=hide hfs;have hp1:=h0 (by omega);clear es ef hsz hfs h0 h1
     by_cases hp2:p<128
     ·go_wp2_with fail;go_region
      all_goals (try go_wp2)
      try rw [Exit.noGoto_ret]
      go_ret;exact ⟨zat (by rw [HQ2.out,if_neg (by omega),if_pos hp2,HZ.out,HF.out]),(BL2.out.alloc BL2.out.size _).drew⟩
     ·go_wp2_with fail;go_roundw
      case rel=>exact ⟨1+1,by omega,by go_num,fun _=>by omega,fun _=>by omega,XB2.out.next ((Below.refl _ _).alloc (Nat.le_refl _) _),XN2.out.next ((Below.refl _ _).alloc (Nat.le_refl _) _),XL2.out.next ((Below.refl _ _).alloc (Nat.le_refl _) _),BL2.out.alloc BL2.out.size _⟩
      case measure=>simp [intOf]
    ·have hp1:=h1 (by omega);clear h0 h1;rw [show decide (2<2)=false from rfl];go_wp2_with fail
     try rw [Exit.noGoto_ret]
     go_ret;exact ⟨zat (by rw [HQ2.out,if_neg (by omega),if_neg (by omega)]),BL2.out.alloc BL2.out.size _⟩
    ·omega
end Go.Proofs.YtdiidjehdginnaaGreatDoor.B4
namespace Go.Proofs.YtdiidjehdginnaaGreatDoor.L24
set_option maxHeartbeats 1000000
set_option maxRecDepth 20000
open B4 C3 G6 R15 W13
open Go.RowKit
set_option linter.unusedVariables false
variable {bu lo rd st wr x:Int} {L:List (Nat×(Nat→Value))} {bs:List Int} {b c d v:Nat} {f:Nat→Int} {w:World}
def bv (ram:Nat→Int):Nat→Value:=fun j=>.int .u8 (ram j)
theorem zmi (k g a:Int):Calls Tryz.prog 107 #[.pointer (some ⟨b,0,none⟩),.agg #[.int .i64 k,.int .i64 g,.int .i64 a]] w fun e w'=>e=Ending.returned (.int .i64 255)∧Below w.heap.size w w':=by
 go_enter Tryz.func107,Tryz.ntmps107;go_wp2;go_ret;exact ⟨rfl,(Below.refl _ _).alloc (Nat.le_refl _) _⟩
theorem zmj (h:HasX w b v c d L bs f wr rd st lo bu) (k g a:Int) (h16:L[16]? = some (1,fun _=>Value.int .i64 x)):Calls Tryz.prog 112 #[.pointer (some ⟨b,0,none⟩),.agg #[.int .i64 k,.int .i64 g,.int .i64 a]] w fun e w'=>e=Ending.returned (.int .i64 x)∧HasX w' b v c d L bs f wr rd st lo bu∧OnlyE (EX b v) w w':=by
 have c16:=h.1.get1 16 h16 (a:=9261) (h.isB.off 16 rfl) (by decide);have HL:=h.1.lt;have HE:=hide h;clear h h16;go_enter Tryz.func112,Tryz.ntmps112;go_wp2;go_ret;have B:=(Below.refl _ w).alloc (Nat.le_refl _) (.cells #[.int .i64 k,.int .i64 g,.int .i64 a] 216);exact ⟨rfl,HE.out.next B,zay B⟩
theorem zoI (h:HasX w b v c d L bs f wr rd st lo bu) (k g a:Int) (j:Nat) (ha:a=(j:Int)) (hj:j<8192) {m:Nat→Value} (h8:L[8]? = some (8192,m)) (hm:m j=.int .u8 x) (x0:0≤x) (x1:x<256):Calls Tryz.prog 109 #[.pointer (some ⟨b,0,none⟩),.agg #[.int .i64 k,.int .i64 g,.int .i64 a]] w fun e w'=>e=Ending.returned (.int .i64 x)∧HasX w' b v c d L bs f wr rd st lo bu∧OnlyE (EX b v) w w':=by
 have c8:=h.1.get 8 h8 j hj (a:=283+j) (by rw [h.isB.off 8 (a:=283) rfl]) (by omega);rw [hm] at c8;have HL:=h.1.lt;have HE:=hide h;subst ha;clear h h8 hm;go_enter Tryz.func109,Tryz.ntmps109;go_wp2_with fail;refine under_name fun w0 hw0=>?_
 have b0:Below w.heap.size w w0:=by rw [hw0];exact (Below.refl _ w).alloc (Nat.le_refl _) _
 have p2:w0.cell? ⟨w.heap.size,2,none⟩=some (.int .i64 (j:Int)):=by rw [hw0];exact (cell_of_row _ _ 2 _ _ _ (heap_alloc_new _ _)).trans rfl
 have lz:w.heap.size<w0.heap.size:=by rw [hw0];simp
 have i8:=zah ((b0.cell (p:=⟨b,283+j,none⟩) HL).trans c8) (Nat.lt_of_lt_of_le HL b0.size);have i2:=zah p2 lz;have X0:=hide (HE.out.next b0);have B0:=hide b0;clear hw0 b0 p2 c8 lz;haveI:=zax w0;refine zbn (by kernel_rfl) (by kernel_rfl) ?_
 repeat (go_big_quiet_step (fail))
 refine wpQuiet_nil ?_;rintro _ ⟨wk,rfl⟩;go_wp2;go_ret;exact ⟨by first|rfl|exact zat (by omega),X0.out.next wk.below,zay (zaz B0.out wk.below)⟩
theorem zoJ (h:HasX w b v c d L bs f wr rd st lo bu) (k g a:Int) {lt pg:Int} (h7:L[7]? = some (1,fun _=>Value.int .i64 lt)) (hp:zde ((bs.length/8192:Nat):Int) lt g=pg)
  (KB:∀w,HasCard w c d bs→Calls Tryz.prog 172 #[.pointer (some ⟨c,0,none⟩),.int .i64 pg,.int .i64 a] w fun e w'=>e=Ending.returned (.int .i64 x)∧w'=w):Calls Tryz.prog 108 #[.pointer (some ⟨b,0,none⟩),.agg #[.int .i64 k,.int .i64 g,.int .i64 a]] w fun e w'=>e=Ending.returned (.int .i64 x)∧HasX w' b v c d L bs f wr rd st lo bu∧OnlyE (EX b v) w w':=by
 have c7:=h.1.get1 7 h7 (a:=282) (h.isB.off 7 rfl) (by decide);have c6:=h.1.get1 6 h.2.2.2.2.2.2.1 (a:=281) (h.isB.off 6 rfl) (by decide);have hn:=h.2.2.2.2.2.2.2.2.1.2;have HL:=h.1.lt;have HE:=hide h;clear h h7;go_enter Tryz.func108,Tryz.ntmps108;go_wp2_with fail;refine under_name fun w0 hw0=>?_
 have b0:Below w.heap.size w w0:=by rw [hw0];exact (Below.refl _ w).alloc (Nat.le_refl _) _
 have p1:w0.cell? ⟨w.heap.size,1,none⟩=some (.int .i64 g):=by rw [hw0];exact (cell_of_row _ _ 1 _ _ _ (heap_alloc_new _ _)).trans rfl
 have p2:w0.cell? ⟨w.heap.size,2,none⟩=some (.int .i64 a):=by rw [hw0];exact (cell_of_row _ _ 2 _ _ _ (heap_alloc_new _ _)).trans rfl
 have lz:w.heap.size<w0.heap.size:=by rw [hw0];simp
 have i7:=zah ((b0.cell (p:=⟨b,282,none⟩) HL).trans c7) (Nat.lt_of_lt_of_le HL b0.size);have i6:=zah ((b0.cell (p:=⟨b,281,none⟩) HL).trans c6) (Nat.lt_of_lt_of_le HL b0.size);have i1:=zah p1 lz;have i2:=zah p2 lz;have X0:=hide (HE.out.next b0);have B0:=hide b0;have KP:=hide (fun x:Kept w0=>zeT ⟨c,0,none⟩ (some ⟨d,0,none⟩) bs.length bs.length x.val (by omega) (X0.out.next x.below).2.2.1.1);have KG:=hide (fun x:Kept w0=>zuE ((bs.length/8192:Nat):Int) lt g x.val (X0.out.next x.below).2.2.2.1.1);rw [hp] at KG;have KY:=hide (fun x:Kept w0=>KB x.val (X0.out.next x.below).2.2.1);generalize ((bs.length/8192:Nat):Int)=n at *;clear hw0 b0 p1 p2 c7 c6 lz KB hp;haveI:=zax w0;refine zbn (by kernel_rfl) (by kernel_rfl) ?_
 repeat (go_big_quiet_step ((first
  |(go_at_call 49;exact zaF (KP.out _))
  |(go_at_call 173;exact zaL (KG.out _))
  |(go_at_call 172;exact zaF (KY.out _)))))
 refine wpQuiet_nil ?_;rintro _ ⟨wk,rfl⟩;go_wp2;go_ret;exact ⟨rfl,X0.out.next wk.below,zay (zaz B0.out wk.below)⟩
theorem zrf (h:HasX w b v c d L bs f wr rd st lo bu) (k g a:Int) (ha:a=0) {R:World→Prop} (KT:∀w1,Below w.heap.size w w1→Calls Tryz.prog 174 #[.pointer (some ⟨b,0,none⟩)] w1 fun e w'=>e=Ending.returned (.int .i64 x)∧R w'):Calls Tryz.prog 110 #[.pointer (some ⟨b,0,none⟩),.agg #[.int .i64 k,.int .i64 g,.int .i64 a]] w fun e w'=>e=Ending.returned (.int .i64 x)∧R w':=by
 have b0:=(Below.refl _ w).alloc (Nat.le_refl _) (.cells #[.int .i64 k,.int .i64 g,.int .i64 a] 216);have K0:=hide (KT _ b0);subst ha;clear h KT b0;go_enter Tryz.func110,Tryz.ntmps110;go_wp2_with fail;refine K0.out.mono ?_;rintro e w2 ⟨rfl,h2⟩;have H2:=hide h2;clear h2;go_wp2;go_ret;exact ⟨rfl,H2.out⟩
theorem zrg (h:HasX w b v c d L bs f wr rd st lo bu) (k g a:Int) (ha:a=2) (hx:bu%256=x):Calls Tryz.prog 110 #[.pointer (some ⟨b,0,none⟩),.agg #[.int .i64 k,.int .i64 g,.int .i64 a]] w fun e w'=>e=Ending.returned (.int .i64 x)∧HasX w' b v c d L bs f wr rd st lo bu∧OnlyE (EX b v) w w':=by
 have b0:=(Below.refl _ w).alloc (Nat.le_refl _) (.cells #[.int .i64 k,.int .i64 g,.int .i64 a] 216);have X0:=hide (h.next b0);have B0:=hide b0;have c1:=h.1.get1 1 h.2.2.2.2.2.1 (a:=21) (h.isB.off 1 rfl) (by decide);have HL:=h.1.lt;subst ha;have K0:=hide (zqY v f wr rd st lo bu _ X0.out.2.1);rw [hx] at K0;clear h b0 hx;go_enter Tryz.func110,Tryz.ntmps110;go_wp2_with fail;refine K0.out.mono ?_;rintro e w2 ⟨rfl,hw⟩;subst w2;go_wp2;go_ret;exact ⟨rfl,X0.out,zay B0.out⟩
theorem zrh (h:HasX w b v c d L bs f wr rd st lo bu) (k g a:Int) (ha:a=3) {y z:Int} (r0:0≤rd) (r1:rd<65536) (s0:0≤st) (s1:st<65536) (hx:bu/256%256=x) (hy:(rd+st)%65536=y) (hz:zbH f y=z):Calls Tryz.prog 110 #[.pointer (some ⟨b,0,none⟩),.agg #[.int .i64 k,.int .i64 g,.int .i64 a]] w fun e w'=>e=Ending.returned (.int .i64 x)∧HasX w' b v c d L bs f wr y st lo z∧OnlyE (EX b v) w w':=by
 have b0:=(Below.refl _ w).alloc (Nat.le_refl _) (.cells #[.int .i64 k,.int .i64 g,.int .i64 a] 216);have X0:=hide (h.next b0);have B0:=hide b0;have c1:=h.1.get1 1 h.2.2.2.2.2.1 (a:=21) (h.isB.off 1 rfl) (by decide);have HL:=h.1.lt;subst ha;have K0:=hide (zoH v f wr rd st lo bu _ X0.out.2.1 y z r0 r1 s0 s1 hy hz);rw [hx] at K0;have S0:=hide h.2.2.2.2.2.2.2.2.2;clear h b0 hx hy hz;go_enter Tryz.func110,Tryz.ntmps110;go_wp2_with fail;refine K0.out.mono ?_;rintro e w2 ⟨rfl,h2,o2⟩;have X2:=hide (X0.out.vram o2 h2 S0.out);have O2:=hide ((zay (b:=b) (v:=v) B0.out).trans (zfA o2));clear h2 o2 K0;go_wp2;go_ret;exact ⟨rfl,X2.out,O2.out⟩
theorem zoK (k g a:Int) (a0:¬a=0) (a2:¬a=2) (a3:¬a=3):Calls Tryz.prog 110 #[.pointer (some ⟨b,0,none⟩),.agg #[.int .i64 k,.int .i64 g,.int .i64 a]] w fun e w'=>e=Ending.returned (.int .i64 0)∧Below w.heap.size w w':=by
 have e0:(a==0)=false:=by simp [a0]
 have e2:(a==2)=false:=by simp [a2]
 have e3:(a==3)=false:=by simp [a3]
 go_enter Tryz.func110,Tryz.ntmps110;go_wp2;go_ret;exact ⟨rfl,(Below.refl _ _).alloc (Nat.le_refl _) _⟩
end Go.Proofs.YtdiidjehdginnaaGreatDoor.L24
