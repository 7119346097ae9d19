/- Texts put together. -/
import Derived.Test.YtoijhhbiknhlnaaGreatDoorCpuSpeedsJ02
import Derived.Test.YtoijhhbiknhlnaaGreatDoorCpuSpeedsJ03
import Derived.Test.YtoijhhbiknhlnaaGreatDoorCpuSpeedsJ04
import Derived.Test.YtoijhhbiknhlnaaGreatDoorCpuSpeedsJ05
import Derived.Test.YtoijhhbiknhlnaaGreatDoorCpuSpeedsJ01
namespace Go.Proofs.YtoijhhbiknhlnaaGreatDoor.L24
set_option maxHeartbeats 1000000
set_option maxRecDepth 20000
open C3 G6 R15 W13
open Go.RowKit
set_option linter.unusedVariables false
def blens:List Nat:=[21,1,256,1,1,1,1,1,8192,8,514,244,4,2,4,10,1,1]
def IsB (L:List (Nat×(Nat→Value))):Prop:=L.map Prod.fst=blens
theorem IsB.off {L:List (Nat×(Nat→Value))} (h:IsB L) (k:Nat) {a:Nat} (ha:(blens.take k).sum=a):soff L k=a:=ztM h k ha
theorem IsB.set {L:List (Nat×(Nat→Value))} (h:IsB L) {k n:Nat} {f:Nat→Value} (hk:L[k]? = some (n,f)) (f':Nat→Value):IsB (L.set k (n,f')):=zln h hk f'
theorem zdG {w w':World} {c:Nat} (h:w'.heap[c]? = w.heap[c]?) (o:Nat):w'.cell? ⟨c,o,none⟩=w.cell? ⟨c,o,none⟩:=by simp only [World.cell?,h]
def HasCard (w:World) (c d:Nat) (bs:List Int):Prop:=w.cell? ⟨c,0,none⟩=some (.slice (some ⟨d,0,none⟩) bs.length bs.length)∧Bytes 5 w d bs∧c<w.heap.size
theorem HasCard.next {w w':World} {c d:Nat} {bs:List Int} (h:HasCard w c d bs) (k:Below w.heap.size w w'):HasCard w' c d bs:=⟨(zdG (k.block c h.2.2) 0).trans h.1,h.2.1.next k,Nat.lt_of_lt_of_le h.2.2 k.size⟩
theorem HasCard.only {E:Nat→Prop} {w w':World} {c d:Nat} {bs:List Int} (h:HasCard w c d bs) (k:OnlyE E w w') (hc:¬E c) (hd:¬E d):HasCard w' c d bs:=⟨(zdG (k.block c h.2.2 hc) 0).trans h.1,⟨k.obj h.2.1.1 hd,h.2.1.2⟩,Nat.lt_of_lt_of_le h.2.2 k.size⟩
def Tabs (w:World):Prop:=HasTab w∧HasPorts w∧HasMask w
def High (b:Nat):Prop:=6<b∧5<b∧7<b
theorem Tabs.next {w w':World} (h:Tabs w) (k:Below w.heap.size w w'):Tabs w':=⟨h.1.next k,h.2.1.next k,h.2.2.next k⟩
theorem Tabs.high {w:World} (h:Tabs w) {b:Nat} (k:w.heap.size≤b):High b:=⟨Nat.lt_of_lt_of_le h.1.pos k,Nat.lt_of_lt_of_le h.2.1.pos k,Nat.lt_of_lt_of_le h.2.2.pos k⟩
theorem Tabs.only {E:Nat→Prop} {w w':World} (h:Tabs w) (k:OnlyE E w w') (hE:∀b,E b→High b):Tabs w':=by
 have p0:=h.1.pos;have p1:=h.2.1.pos;have p2:=h.2.2.pos;obtain ⟨⟨t0,f0,e0⟩,⟨t1,f1,e1⟩,⟨t2,f2,e2⟩⟩:=h;exact ⟨⟨t0,f0,k.obj e0 fun e=>Nat.lt_irrefl _ (hE _ e).1⟩,⟨t1,f1,k.obj e1 fun e=>Nat.lt_irrefl _ (hE _ e).2.1⟩,⟨t2,f2,k.obj e2 fun e=>Nat.lt_irrefl _ (hE _ e).2.2⟩⟩
def EX (b v:Nat):Nat→Prop:=fun k=>k=b∨k=v
theorem zbG {b v:Nat} {w w':World} (k:But b w w'):OnlyE (EX b v) w w':=⟨k.1,k.2.1,k.2.2.1,k.size,fun i hi hE=>k.block i hi fun e=>hE (.inl e)⟩
theorem zeT {b v:Nat} {w w':World} (k:Only v w w'):OnlyE (EX b v) w w':=⟨k.1,k.2.1,k.2.2.1,k.size,fun i hi hE=>k.block i hi fun e=>hE (.inr e)⟩
theorem zaB {b v:Nat} {w w':World} (k:Below w.heap.size w w'):OnlyE (EX b v) w w':=OnlyE.of k
def HasX (w:World) (b v c d:Nat) (L:List (Nat×(Nat→Value))) (bs:List Int) (f:Nat→Int) (wr rd st lo bu:Int):Prop:=
 HasF 55 w b 9263 (segs L)∧HasM w v true f wr rd st lo bu∧HasCard w c d bs∧Tabs w∧IsB L∧L[1]? = some (1,fun _=>.pointer (some ⟨v,0,none⟩))∧L[6]? = some (1,fun _=>.pointer (some ⟨c,0,none⟩))∧(b≠v∧b≠c∧b≠d∧v≠c∧v≠d∧High b∧High v)∧(1≤bs.length/8192∧bs.length≤10000000)∧st≠0
theorem HasX.isB {w:World} {b v c d:Nat} {L:List (Nat×(Nat→Value))} {bs:List Int} {f:Nat→Int} {wr rd st lo bu:Int} (h:HasX w b v c d L bs f wr rd st lo bu):IsB L:=h.2.2.2.2.1
theorem HasX.tabs {w:World} {b v c d:Nat} {L:List (Nat×(Nat→Value))} {bs:List Int} {f:Nat→Int} {wr rd st lo bu:Int} (h:HasX w b v c d L bs f wr rd st lo bu):Tabs w:=h.2.2.2.1
theorem HasX.next {w:World} {b v c d:Nat} {L:List (Nat×(Nat→Value))} {bs:List Int} {f:Nat→Int} {wr rd st lo bu:Int} (h:HasX w b v c d L bs f wr rd st lo bu) {w':World} (k:Below w.heap.size w w'):HasX w' b v c d L bs f wr rd st lo bu:=⟨h.1.next k,h.2.1.next k,h.2.2.1.next k,h.2.2.2.1.next k,h.2.2.2.2⟩
theorem HasX.row {w:World} {b v c d:Nat} {L:List (Nat×(Nat→Value))} {bs:List Int} {f:Nat→Int} {wr rd st lo bu:Int} (h:HasX w b v c d L bs f wr rd st lo bu) {w':World} {L':List (Nat×(Nat→Value))} (k:But b w w') (h':HasF 55 w' b 9263 (segs L')) (y:IsB L') (y1:L'[1]? = L[1]?) (y6:L'[6]? = L[6]?):HasX w' b v c d L' bs f wr rd st lo bu:=by
 obtain ⟨q1,q2,q3,q4,q5,q6,q7,⟨n1,n2,n3,n4,n5,n6,n7⟩,q9,q10⟩:=h;have e:OnlyE (fun i=>i=b) w w':=⟨k.1,k.2.1,k.2.2.1,k.size,fun i hi hE=>k.block i hi hE⟩
 exact ⟨h',k.obj q2 (fun e=>n1 e.symm),q3.only e (fun e=>n2 e.symm) (fun e=>n3 e.symm),q4.only e (fun i e=>e▸n6),y,y1.trans q6,y6.trans q7,⟨n1,n2,n3,n4,n5,n6,n7⟩,q9,q10⟩
theorem HasX.vram {w:World} {b v c d:Nat} {L:List (Nat×(Nat→Value))} {bs:List Int} {f:Nat→Int} {wr rd st lo bu:Int} (h:HasX w b v c d L bs f wr rd st lo bu) {w':World} {f':Nat→Int} {wr' rd' st' lo' bu':Int} (k:Only v w w') (h':HasM w' v true f' wr' rd' st' lo' bu') (s:st'≠0):HasX w' b v c d L bs f' wr' rd' st' lo' bu':=by
 obtain ⟨q1,q2,q3,q4,q5,q6,q7,⟨n1,n2,n3,n4,n5,n6,n7⟩,q9,q10⟩:=h;have e:OnlyE (fun i=>i=v) w w':=⟨k.1,k.2.1,k.2.2.1,k.size,fun i hi hE=>k.block i hi hE⟩
 exact ⟨k.obj q1 n1,h',q3.only e (fun e=>n4 e.symm) (fun e=>n5 e.symm),q4.only e (fun i e=>e▸n7),q5,q6,q7,⟨n1,n2,n3,n4,n5,n6,n7⟩,q9,s⟩
theorem HasX.lay {w:World} {b v c d:Nat} {L:List (Nat×(Nat→Value))} {bs:List Int} {f:Nat→Int} {wr rd st lo bu:Int} (h:HasX w b v c d L bs f wr rd st lo bu) {w':World} (k:But b w w') (i:Nat) {n:Nat} {s s':Nat→Value} (hi:L[i]? = some (n,s)) (h':HasF 55 w' b 9263 (segs (L.set i (n,s')))) (i1:i≠1) (i6:i≠6):HasX w' b v c d (L.set i (n,s')) bs f wr rd st lo bu:=
 h.row k h' (h.isB.set hi s') (zaA rfl _ i1) (zaA rfl _ i6)
theorem zoi {w:World} {v:Nat} {f:Nat→Int} {wr rd st lo bu:Int} (h:HasM w v true f wr rd st lo bu) (hs:st≠0):Calls Tryz.prog 81 #[.pointer (some ⟨v,0,none⟩)] w fun e w'=>e=Ending.returned (.bool false)∧Below w.heap.size w w':=by
 have K:=hide (zrq v f wr rd st lo bu w h);have hs2:(st==0)=false:=by simp [hs]
 clear h hs;go_enter Tryz.func81,Tryz.ntmps81;go_wp2_with (first|(go_at_call 132;refine K.out.mono ?_;rintro e w2 ⟨rfl,b2⟩;have B2:=hide b2;clear b2));go_ret;exact ⟨rfl,B2.out⟩
theorem zaV {w:World} {b v c d:Nat} {L:List (Nat×(Nat→Value))} {bs:List Int} {f:Nat→Int} {wr rd st lo bu:Int} (h:HasX w b v c d L bs f wr rd st lo bu):Calls Tryz.prog 29 #[.pointer (some ⟨b,0,none⟩)] w fun e w'=>e=Ending.returned (.bool false)∧Below w.heap.size w w':=by
 obtain ⟨q1,q2,q3,q4,q5,q6,q7,q8,⟨p0,p1⟩,q10⟩:=h;have c1:=q1.get1 1 q6 (a:=21) (q5.off 1 rfl) (by decide);have c6:=q1.get1 6 q7 (a:=281) (q5.off 6 rfl) (by decide);have KP:=hide (zfj ⟨c,0,none⟩ (some ⟨d,0,none⟩) bs.length bs.length w (by omega) q3.1);have KN:=hide (zoi q2 q10);have p2:(((bs.length/8192:Nat):Int)==0)=false:=by simp;omega
 generalize ((bs.length/8192:Nat):Int)=n at *;clear q1 q2 q3 q4 q5 q6 q7 q8 q10 p0 p1;go_enter Tryz.func29,Tryz.ntmps29
 go_wp2_with (first
  |(go_at_call 80;refine KP.out.mono ?_;rintro e w2 ⟨rfl,hw⟩;subst w2)
  |(go_at_call 81;refine KN.out.mono ?_;rintro e w2 ⟨rfl,b2⟩;have B2:=hide b2;clear b2))
 go_ret;exact ⟨rfl,B2.out⟩
theorem zoj {w : World} {b v c d : Nat} {L : List (Nat × (Nat → Value))} {bs : List Int} {f : Nat → Int} {wr rd st lo bu : Int} (h : HasX w b v c d L bs f wr rd st lo bu) {t t' : Nat → Value} {lag k : Int} (h12 : L[12]? = some (4, t)) (h17 : L[17]? = some (1, fun _ => Value.int .i64 lag)) (KA : ∀ w, Calls Tryz.prog 30 #[.agg (rowF t 4), .int .i64 lag] w fun e w' => e = Ending.returned (.tuple #[.agg (rowF t' 4), .int .i64 k]) ∧ Below w.heap.size w w') (hg : ∀ j, j < 4 → (t' j).oneCell' = true) (hk : ¬ 0 < k) :
    Calls Tryz.prog 18 #[.pointer (some ⟨b, 0, none⟩)] w fun e w' => e = Ending.returned (.tuple #[]) ∧ HasX w' b v c d ((L.set 12 (4, t')).set 17 (1, fun _ => Value.int .i64 0)) bs f wr rd st lo bu ∧ OnlyE (EX b v) w w' := by
  have MI := hide (zaV h)
  have HE := hide h
  have KA := hide KA
  have E12 := hide h12
  have E17 := hide h17
  have HB := hide h.isB
  have G1 := hide hg
  have ZO : Hid ((rowF t' 4).all (·.oneCell') = true) := hide (zgr hg)
  have ZI : Hid ((Tryz.prog.info? 46).map (·.size) = some (rowF t' 4).size) := hide (by rw [zaq]; kernel_rfl)
  have ZS : Hid ((#[.int .i64 0, .int .i64 0, .bool false, .int .i64 0] : Array Value).size = (rowF t' 4).size) := hide (by rw [zaq]; rfl)
  have IT : Hid ((Tryz.prog.info? 46).map (·.size) = some (rowF t 4).size) := hide (by rw [zaq]; kernel_rfl)
  clear h h12 h17 hg
  go_enter Tryz.func18, Tryz.ntmps18
  go_wp2_with (first | (go_at_call 29; refine MI.out.mono ?_; rintro e w1 ⟨rfl, b1⟩; have X1 := hide (HE.out.next b1); have B1 := hide (But.of (b := b) b1); clear b1 MI))
  have R12 := hide (X1.out.1.range 9241 4 (by decide))
  rw [zbX (X1.out.1.seg 12 E12.out (a := 9241) (HB.out.off 12 rfl))] at R12
  have HL := hide X1.out.1.lt
  have i17 := hide (X1.out.1.get1 17 E17.out (a := 9262) (HB.out.off 17 rfl) (by decide))
  generalize rowF t 4 = A at *
  refine zeK _ _ _ _ (show _ = ([_, _, _, _, _, _, _, _, _, _, _, _] ++ [_, _]) ++ [_] from rfl) #[.int .i64 0, .int .i64 0, .bool false, .int .i64 0] (rowF t' 4) 46 35 2 16 46 (by kernel_rfl) (by kernel_rfl) (by kernel_rfl) (by kernel_rfl) rfl rfl (by decide) rfl ZI.out ZS.out ZO.out ?_ ?_
  · intro a w
    set_option maxRecDepth 100000 in
    rfl
  apply Exists.intro
  refine ⟨fun W hW => ?_, ?_, ?_⟩
  · have j17 := zac ((hW.cell (p := ⟨b, 9262, none⟩) HL.out).trans i17.out) (Nat.lt_of_lt_of_le HL.out hW.size)
    haveI := zal W
    repeat (first
      | (refine wpQuiet_mid rfl 46 (.tmp 9) rfl b 9241 rfl A _ (fun w' ⟨x, hx⟩ => by rw [hx]; intro j y hy; rw [x.cell b _ (Nat.lt_of_lt_of_le HL.out hW.size), hW.cell (p := ⟨b, 9241 + j, none⟩) HL.out]; exact R12.out j y hy) Tryz.underlying46 rfl IT.out ?_; simp only [Act.put, List.setIfInBounds_toArray, List.set_cons_succ, List.set_cons_zero])
      | go_big_quiet_step ((go_at_call 30; exact zaU (KA.out _))))
    refine wpQuiet_nil ?_
    rfl
  · rfl
  intro g w3 b3 hg lg
  have M3 := hide hg
  have H3 := hide (X1.out.1.next b3)
  have B3 := hide (B1.out.andBelow b3)
  simp only [Act.put, List.setIfInBounds_toArray, List.set_cons_succ, List.set_cons_zero]
  clear b3 hg lg KA R12 i17 HL
  go_wp2_with (first
    | (refine wpList_load_row rfl 46 (.tmp 2) rfl g rfl _ _ _ _ M3.out Tryz.underlying46 rfl ZI.out ?_)
    | (refine zaD rfl 46 (.tmp 22) (.tmp 20) rfl b 9241 4 t' rfl rfl H3.out (by decide) (by kernel_rfl) G1.out ?_
       refine zam fun w4 hw4 => ?_
       have H4 : Hid (HasF 55 w4 b 9263 (segs (L.set 12 (4, t')))) := hide (by rw [hw4]; exact H3.out.lay 12 E12.out t' (HB.out.off 12 rfl))
       have B4 : Hid (But b w w4) := hide (by rw [hw4]; exact But.cells _ _ _ B3.out)
       have I4 := hide (HB.out.set E12.out t')
       have F17 := hide (zaA (k := 12) E17.out (4, t') (by decide))
       have c17 := H4.out.get1 17 F17.out (a := 9262) (I4.out.off 17 rfl) (by decide)
       have z17 := H4.out.frozen 9262
       have H5 := hide (H4.out.put1 17 F17.out (a := 9262) (I4.out.off 17 rfl) (.int .i64 0))
       have B5 := hide (B4.out.set 9262 (.int .i64 0))
       have I5 := hide (I4.out.set F17.out (fun _ => Value.int .i64 0))
       clear hw4 H3 B3 M3 H4 B4)
     )
  go_end0
  exact ⟨rfl, HE.out.row B5.out H5.out I5.out (zaA (zaA rfl _ (by decide)) _ (by decide)) (zaA (zaA rfl _ (by decide)) _ (by decide)), zbG B5.out⟩
theorem zjv {w:World} {b v c d:Nat} {L:List (Nat×(Nat→Value))} {bs:List Int} {f:Nat→Int} {wr rd st lo bu:Int} (h:HasX w b v c d L bs f wr rd st lo bu) {t t' s s':Nat→Value} {lag k:Int} (h12:L[12]? = some (4,t)) (h17:L[17]? = some (1,fun _=>Value.int .i64 lag)) (h13:L[13]? = some (2,s)) (KA:∀w,Calls Tryz.prog 30 #[.agg (rowF t 4),.int .i64 lag] w fun e w'=>e=Ending.returned (.tuple #[.agg (rowF t' 4),.int .i64 k])∧Below w.heap.size w w') (hg:∀j,j<4→(t' j).oneCell'=true) (hk:0<k)
  (KR:∀w,Calls Tryz.prog 31 #[.agg (rowF s 2),.int .i64 4,.bool true] w fun e w'=>e=Ending.returned (.agg (rowF s' 2))∧Below w.heap.size w w') (hs:∀j,j<2→(s' j).oneCell'=true):
  Calls Tryz.prog 18 #[.pointer (some ⟨b,0,none⟩)] w fun e w'=>e=Ending.returned (.tuple #[])∧HasX w' b v c d (((L.set 12 (4,t')).set 17 (1,fun _=>Value.int .i64 0)).set 13 (2,s')) bs f wr rd st lo bu∧OnlyE (EX b v) w w':=by
 have KR:=hide KR;have GS:=hide hs;have E5:Hid (((L.set 12 (4,t')).set 17 (1,fun _=>Value.int .i64 0))[13]? = some (2,s)):=hide (zaA (zaA h13 _ (by decide)) _ (by decide))
 have SG5:Hid (∀j,j<2→segs ((L.set 12 (4,t')).set 17 (1,fun _=>Value.int .i64 0)) (9245+j)=s j):=hide (fun j hj=>by
  have q:=zcF ((L.set 12 (4,t')).set 17 (1,fun _=>Value.int .i64 0)) 13 2 s j E5.out hj;rw [((h.isB.set h12 t').set (zaA h17 _ (by decide)) _).off 13 (a:=9245) rfl] at q
  exact q)
 clear h13 hs;have MI:=hide (zaV h);have HE:=hide h;have KA:=hide KA;have E12:=hide h12;have E17:=hide h17;have HB:=hide h.isB;have G1:=hide hg;have ZO:Hid ((rowF t' 4).all (·.oneCell')=true):=hide (zgr hg);have ZI:Hid ((Tryz.prog.info? 46).map (·.size)=some (rowF t' 4).size):=hide (by rw [zaq];kernel_rfl);have ZS:Hid ((#[.int .i64 0,.int .i64 0,.bool false,.int .i64 0]:Array Value).size=(rowF t' 4).size):=hide (by rw [zaq];rfl);have IT:Hid ((Tryz.prog.info? 46).map (·.size)=some (rowF t 4).size):=hide (by rw [zaq];kernel_rfl);clear h h12 h17 hg;go_enter Tryz.func18,Tryz.ntmps18;go_wp2_with (first|(go_at_call 29;refine MI.out.mono ?_;rintro e w1 ⟨rfl,b1⟩;have X1:=hide (HE.out.next b1);have B1:=hide (But.of (b:=b) b1);clear b1 MI));have R12:=hide (X1.out.1.range 9241 4 (by decide));rw [zbX (X1.out.1.seg 12 E12.out (a:=9241) (HB.out.off 12 rfl))] at R12;have HL:=hide X1.out.1.lt;have i17:=hide (X1.out.1.get1 17 E17.out (a:=9262) (HB.out.off 17 rfl) (by decide));generalize rowF t 4=A at *;refine zeK _ _ _ _ (show _=([_,_,_,_,_,_,_,_,_,_,_,_]++[_,_])++[_] from rfl) #[.int .i64 0,.int .i64 0,.bool false,.int .i64 0] (rowF t' 4) 46 35 2 16 46 (by kernel_rfl) (by kernel_rfl) (by kernel_rfl) (by kernel_rfl) rfl rfl (by decide) rfl ZI.out ZS.out ZO.out ?_ ?_
 ·intro a w
  set_option maxRecDepth 100000 in
  rfl
 apply Exists.intro;refine ⟨fun W hW=>?_,?_,?_⟩
 ·have j17:=zac ((hW.cell (p:=⟨b,9262,none⟩) HL.out).trans i17.out) (Nat.lt_of_lt_of_le HL.out hW.size);haveI:=zal W
  repeat (first
   |(refine wpQuiet_mid rfl 46 (.tmp 9) rfl b 9241 rfl A _ (fun w' ⟨x,hx⟩=>by rw [hx];intro j y hy;rw [x.cell b _ (Nat.lt_of_lt_of_le HL.out hW.size),hW.cell (p:=⟨b,9241+j,none⟩) HL.out];exact R12.out j y hy) Tryz.underlying46 rfl IT.out ?_;simp only [Act.put,List.setIfInBounds_toArray,List.set_cons_succ,List.set_cons_zero])
   |go_big_quiet_step ((go_at_call 30;exact zaU (KA.out _))))
  refine wpQuiet_nil ?_;rfl
 ·rfl
 intro g w3 b3 hg lg;have M3:=hide hg;have H3:=hide (X1.out.1.next b3);have B3:=hide (B1.out.andBelow b3);simp only [Act.put,List.setIfInBounds_toArray,List.set_cons_succ,List.set_cons_zero];clear b3 hg lg KA R12 i17 HL
 go_wp2_with (first
  |(refine wpList_load_row rfl 46 (.tmp 2) rfl g rfl _ _ _ _ M3.out Tryz.underlying46 rfl ZI.out ?_)
  |(refine zaD rfl 46 (.tmp 22) (.tmp 20) rfl b 9241 4 t' rfl rfl H3.out (by decide) (by kernel_rfl) G1.out ?_
    refine zam fun w4 hw4=>?_
    have H4:Hid (HasF 55 w4 b 9263 (segs (L.set 12 (4,t')))):=hide (by rw [hw4];exact H3.out.lay 12 E12.out t' (HB.out.off 12 rfl));have B4:Hid (But b w w4):=hide (by rw [hw4];exact But.cells _ _ _ B3.out);have I4:=hide (HB.out.set E12.out t');have F17:=hide (zaA (k:=12) E17.out (4,t') (by decide));have c17:=H4.out.get1 17 F17.out (a:=9262) (I4.out.off 17 rfl) (by decide);have z17:=H4.out.frozen 9262;have H5:=hide (H4.out.put1 17 F17.out (a:=9262) (I4.out.off 17 rfl) (.int .i64 0));have B5:=hide (B4.out.set 9262 (.int .i64 0));have I5:=hide (I4.out.set F17.out (fun _=>Value.int .i64 0))
    clear hw4 H3 B3 M3 H4 B4)
  |(refine zaC rfl 48 (.tmp 30) rfl b 9245 rfl H5.out 2 (by decide) s SG5.out _ Tryz.underlying48 rfl (by kernel_rfl) ?_))
 refine (KR.out _).mono ?_;rintro e w5 ⟨rfl,b5⟩;have H6:=hide (H5.out.next b5);have B6:=hide (B5.out.andBelow b5);clear b5 KR H5 B5 SG5
 go_wp2_with (first
  |(refine zaD rfl 48 (.tmp 34) (.tmp 32) rfl b 9245 2 s' rfl rfl H6.out (by decide) (by kernel_rfl) GS.out ?_
    refine zam fun w7 hw7=>?_
    have H7:Hid (HasF 55 w7 b 9263 (segs (((L.set 12 (4,t')).set 17 (1,fun _=>Value.int .i64 0)).set 13 (2,s')))):=hide (by rw [hw7];exact H6.out.lay 13 E5.out s' (I5.out.off 13 rfl));have B7:Hid (But b w w7):=hide (by rw [hw7];exact But.cells _ _ _ B6.out)
    clear hw7 H6 B6))
 go_end0;exact ⟨rfl,HE.out.row B7.out H7.out (I5.out.set E5.out _) (zaA (zaA (zaA rfl _ (by decide)) _ (by decide)) _ (by decide)) (zaA (zaA (zaA rfl _ (by decide)) _ (by decide)) _ (by decide)),zbG B7.out⟩
theorem zuF {w:World} {b v c d:Nat} {L:List (Nat×(Nat→Value))} {bs:List Int} {f:Nat→Int} {wr rd st lo bu:Int} (h:HasX w b v c d L bs f wr rd st lo bu) {s n x:Int} (h3:L[3]? = some (1,fun _=>Value.int .i64 s)) (hx:bits .or .i64 s n=x):
  Calls Tryz.prog 197 #[.pointer (some ⟨b,0,none⟩),.int .i64 n,.bool false] w fun e w'=>e=Ending.returned (.tuple #[])∧HasX w' b v c d (L.set 3 (1,fun _=>Value.int .i64 x)) bs f wr rd st lo bu∧OnlyE (EX b v) w w':=by
 have MI:=hide (zaV h);have HE:=hide h;have E3:=hide h3;have HB:=hide h.isB;clear h h3;go_enter Tryz.func197,Tryz.ntmps197
 go_wp2_with (first
  |(go_at_call 29;refine MI.out.mono ?_;rintro e w1 ⟨rfl,b1⟩;have X1:=hide (HE.out.next b1);have B1:=hide (But.of (b:=b) b1);clear b1 MI;have c3:=X1.out.1.get1 3 E3.out (a:=278) (HB.out.off 3 rfl) (by decide);have z3:=X1.out.1.frozen 278;have H5:=hide (X1.out.1.put1 3 E3.out (a:=278) (HB.out.off 3 rfl) (.int .i64 x));have B5:=hide (B1.out.set 278 (.int .i64 x));have I5:=hide (HB.out.set E3.out (fun _=>Value.int .i64 x)))
   )
 go_end0;exact ⟨rfl,HE.out.row B5.out H5.out I5.out (zaA rfl _ (by decide)) (zaA rfl _ (by decide)),zbG B5.out⟩
theorem zrs {w:World} {b v c d:Nat} {L:List (Nat×(Nat→Value))} {bs:List Int} {f:Nat→Int} {wr rd st lo bu:Int} (h:HasX w b v c d L bs f wr rd st lo bu) {s s':Nat→Value} {q n x:Int} (h3:L[3]? = some (1,fun _=>Value.int .i64 q)) (h13:L[13]? = some (2,s)) (hx:bits .or .i64 q n=x)
  (KR:∀w,Calls Tryz.prog 31 #[.agg (rowF s 2),.int .i64 2,.bool true] w fun e w'=>e=Ending.returned (.agg (rowF s' 2))∧Below w.heap.size w w') (hs:∀j,j<2→(s' j).oneCell'=true):
  Calls Tryz.prog 197 #[.pointer (some ⟨b,0,none⟩),.int .i64 n,.bool true] w fun e w'=>e=Ending.returned (.tuple #[])∧HasX w' b v c d ((L.set 3 (1,fun _=>Value.int .i64 x)).set 13 (2,s')) bs f wr rd st lo bu∧OnlyE (EX b v) w w':=by
 have KR:=hide KR;have GS:=hide hs;have E5:Hid ((L.set 3 (1,fun _=>Value.int .i64 x))[13]? = some (2,s)):=hide (zaA h13 _ (by decide))
 have SG5:Hid (∀j,j<2→segs (L.set 3 (1,fun _=>Value.int .i64 x)) (9245+j)=s j):=hide (fun j hj=>by
  have q:=zcF (L.set 3 (1,fun _=>Value.int .i64 x)) 13 2 s j E5.out hj;rw [(h.isB.set h3 _).off 13 (a:=9245) rfl] at q
  exact q)
 clear h13 hs;have MI:=hide (zaV h);have HE:=hide h;have E3:=hide h3;have HB:=hide h.isB;clear h h3;go_enter Tryz.func197,Tryz.ntmps197
 go_wp2_with (first
  |(go_at_call 29;refine MI.out.mono ?_;rintro e w1 ⟨rfl,b1⟩;have X1:=hide (HE.out.next b1);have B1:=hide (But.of (b:=b) b1);clear b1 MI;have c3:=X1.out.1.get1 3 E3.out (a:=278) (HB.out.off 3 rfl) (by decide);have z3:=X1.out.1.frozen 278;have H5:=hide (X1.out.1.put1 3 E3.out (a:=278) (HB.out.off 3 rfl) (.int .i64 x));have B5:=hide (B1.out.set 278 (.int .i64 x));have I5:=hide (HB.out.set E3.out (fun _=>Value.int .i64 x)))
  |(refine zaC rfl 48 (.tmp 22) rfl b 9245 rfl H5.out 2 (by decide) s SG5.out _ Tryz.underlying48 rfl (by kernel_rfl) ?_))
 refine (KR.out _).mono ?_;rintro e w5 ⟨rfl,b5⟩;have H6:=hide (H5.out.next b5);have B6:=hide (B5.out.andBelow b5);clear b5 KR H5 B5 SG5
 go_wp2_with (first
  |(refine zaD rfl 48 (.tmp 26) (.tmp 24) rfl b 9245 2 s' rfl rfl H6.out (by decide) (by kernel_rfl) GS.out ?_
    refine zam fun w7 hw7=>?_
    have H7:Hid (HasF 55 w7 b 9263 (segs ((L.set 3 (1,fun _=>Value.int .i64 x)).set 13 (2,s')))):=hide (by rw [hw7];exact H6.out.lay 13 E5.out s' (I5.out.off 13 rfl));have B7:Hid (But b w w7):=hide (by rw [hw7];exact But.cells _ _ _ B6.out)
    clear hw7 H6 B6))
 go_end0;exact ⟨rfl,HE.out.row B7.out H7.out (I5.out.set E5.out _) (zaA (zaA rfl _ (by decide)) _ (by decide)) (zaA (zaA rfl _ (by decide)) _ (by decide)),zbG B7.out⟩
theorem zip {w:World} {b v c d:Nat} {L:List (Nat×(Nat→Value))} {bs:List Int} {f:Nat→Int} {wr rd st lo bu:Int} (h:HasX w b v c d L bs f wr rd st lo bu) {s s':Nat→Value} {q x:Int} (h3:L[3]? = some (1,fun _=>Value.int .i64 q)) (h13:L[13]? = some (2,s)) (hx:q%128=x)
  (KR:∀w,Calls Tryz.prog 31 #[.agg (rowF s 2),.int .i64 2,.bool false] w fun e w'=>e=Ending.returned (.agg (rowF s' 2))∧Below w.heap.size w w') (hs:∀j,j<2→(s' j).oneCell'=true):
  Calls Tryz.prog 126 #[.pointer (some ⟨b,0,none⟩)] w fun e w'=>e=Ending.returned (.int .i64 x)∧HasX w' b v c d ((L.set 3 (1,fun _=>Value.int .i64 0)).set 13 (2,s')) bs f wr rd st lo bu∧OnlyE (EX b v) w w':=by
 have KR:=hide KR;have GS:=hide hs;have E5:Hid ((L.set 3 (1,fun _=>Value.int .i64 0))[13]? = some (2,s)):=hide (zaA h13 _ (by decide))
 have SG5:Hid (∀j,j<2→segs (L.set 3 (1,fun _=>Value.int .i64 0)) (9245+j)=s j):=hide (fun j hj=>by
  have q:=zcF (L.set 3 (1,fun _=>Value.int .i64 0)) 13 2 s j E5.out hj;rw [(h.isB.set h3 _).off 13 (a:=9245) rfl] at q
  exact q)
 clear h13 hs;have HE:=hide h;have HB:=hide h.isB;have E3:=hide h3;have c3:=h.1.get1 3 h3 (a:=278) (h.isB.off 3 rfl) (by decide);have z3:=h.1.frozen 278;have H5:=hide (h.1.put1 3 h3 (a:=278) (h.isB.off 3 rfl) (.int .i64 0));have B5:=hide ((But.refl b w).set 278 (.int .i64 0));have I5:=hide (h.isB.set h3 (fun _=>Value.int .i64 0));have ea:bits .and .i64 q 127=x:=(zbM 7 (by decide) q).trans hx;clear h h3;go_enter Tryz.func126,Tryz.ntmps126
 go_wp2_with (first
  |(refine zaC rfl 48 (.tmp 17) rfl b 9245 rfl H5.out 2 (by decide) s SG5.out _ Tryz.underlying48 rfl (by kernel_rfl) ?_))
 refine (KR.out _).mono ?_;rintro e w5 ⟨rfl,b5⟩;have H6:=hide (H5.out.next b5);have B6:=hide (B5.out.andBelow b5);clear b5 KR H5 B5 SG5
 go_wp2_with (first
  |(refine zaD rfl 48 (.tmp 21) (.tmp 19) rfl b 9245 2 s' rfl rfl H6.out (by decide) (by kernel_rfl) GS.out ?_
    refine zam fun w7 hw7=>?_
    have H7:Hid (HasF 55 w7 b 9263 (segs ((L.set 3 (1,fun _=>Value.int .i64 0)).set 13 (2,s')))):=hide (by rw [hw7];exact H6.out.lay 13 E5.out s' (I5.out.off 13 rfl));have B7:Hid (But b w w7):=hide (by rw [hw7];exact But.cells _ _ _ B6.out)
    clear hw7 H6 B6))
 go_ret;exact ⟨by first|rfl|exact zay (by omega),HE.out.row B7.out H7.out (I5.out.set E5.out _) (zaA (zaA rfl _ (by decide)) _ (by decide)) (zaA (zaA rfl _ (by decide)) _ (by decide)),zbG B7.out⟩
end Go.Proofs.YtoijhhbiknhlnaaGreatDoor.L24
