/- Texts put together. -/
import Derived.Test.YtdiidjehdginnaaGreatDoorConsoleCountsJ03
import Derived.Deep.CutRange
namespace Go.Proofs.YtdiidjehdginnaaGreatDoor.L24
set_option maxHeartbeats 1000000
set_option maxRecDepth 20000
open B4 C3 G6 R15 W13
open Go.RowKit
set_option linter.unusedVariables false
variable {bu hd lo rd st wr x:Int} {L L2:List (Nat×(Nat→Value))} {bs:List Int} {b c d v:Nat} {f:Nat→Int} {q s:Nat→Value} {w:World} {R:World→Prop}
theorem But.fresh {n:Nat} {w':World} (h:But b w w') (hn:w.heap.size≤n) (cs:Array Value):But b w (w'.setRow n cs):=
 ⟨h.1,h.2.1,h.2.2.1,by have:=h.size;simp [World.setRow];omega,fun i hi hb=>(setRow_other w' n i cs (by omega)).trans (h.block i hi hb)⟩
theorem zri (w:World):(zeroValue 43).run Tryz.prog w=.ok (.agg (rowF (iv fun _=>0) 514)) w:=by kernel_rfl
def vcR (S b z:Nat) (a x:Int) (q q':Nat→Value) (i:Nat) (y:Value) (w:World):Prop:=match i with
 |0=>y=.pointer (some ⟨b,0,none⟩)
 |1=>y=.pointer (some ⟨b,0,none⟩)
 |2=>y=.pointer (some ⟨b,8483,none⟩)
 |3=>y=.agg (rowF q 514)
 |4=>y=.pointer (some ⟨z,2,none⟩)
 |5=>y=.int .i64 a
 |6=>y=.tuple #[.int .i64 x,.agg (rowF q' 514)]
 |7=>y=.tuple #[.int .i64 x,.agg (rowF q' 514)]
 |8=>y=.int .i64 x
 |9=>y=.agg (rowF q' 514)
 |10=>∃n,y=.pointer (some ⟨n,0,none⟩)∧HasF 43 w n 514 (iv fun _=>0)∧S≤n
 |_=>y=.int .i64 x
theorem zuF (S b z:Nat) (a x:Int) (q q':Nat→Value):∀i y w w',vcR S b z a x q q' i y w→Below w.heap.size w w'→vcR S b z a x q q' i y w':=by
 intro i y w w' h k;rcases i with _|_|_|_|_|_|_|_|_|_|_|i
 iterate 10 exact h
 ·obtain ⟨n,e,r,s⟩:=h;exact ⟨n,e,r.next k,s⟩
 ·exact h
theorem zoL (h:HasX w b v c d L bs f wr rd st lo bu) (k g a:Int) {q':Nat→Value} (h10:L[10]? = some (514,q)) (KV:∀w,Calls Tryz.prog 176 #[.agg (rowF q 514),.int .i64 a] w fun e w'=>e=Ending.returned (.tuple #[.int .i64 x,.agg (rowF q' 514)])∧Below w.heap.size w w') (hq:∀j,j<514→(q' j).oneCell'=true):Calls Tryz.prog 111 #[.pointer (some ⟨b,0,none⟩),.agg #[.int .i64 k,.int .i64 g,.int .i64 a]] w fun e w'=>e=Ending.returned (.int .i64 x)∧HasX w' b v c d (L.set 10 (514,q')) bs f wr rd st lo bu∧OnlyE (EX b v) w w':=by
 have SG:=hide (h.1.seg 10 h10 (a:=8483) (h.isB.off 10 rfl));have E10:=hide h10;have HB:=hide h.isB;have HE:=hide h;have G1:=hide hq;have V0:=hide KV;have ZO:Hid ((rowF q' 514).all (·.oneCell')=true):=hide (zea hq);have ZI:Hid ((Tryz.prog.info? 43).map (·.size)=some (rowF q' 514).size):=hide (by rw [zai];kernel_rfl);have ZS:Hid ((rowF (iv fun _=>0) 514).size=(rowF q' 514).size):=hide (by rw [zai,zai]);clear h h10 KV hq;go_enter Tryz.func111,Tryz.ntmps111;go_wp2_with fail;refine under_name fun w0 hw0=>?_
 have b0:Below w.heap.size w w0:=by rw [hw0];exact (Below.refl _ w).alloc (Nat.le_refl _) _
 have p2:Hid (w0.cell? ⟨w.heap.size,2,none⟩=some (.int .i64 a)):=hide (by rw [hw0];exact (cell_of_row _ _ 2 _ _ _ (heap_alloc_new _ _)).trans rfl);have lz:Hid (w.heap.size<w0.heap.size):=hide (by rw [hw0];simp);have X0:=hide (HE.out.next b0);have B0:=hide (But.of (b:=b) b0);clear hw0 b0;generalize hz:w.heap.size=z at *;replace hz:=hide hz;refine zbq [_,_,_,_,_,_,_,_,_,_,_,_] _ rfl (vcR w0.heap.size b z a x q q') _ (fun vals=>by simp only [zaA,Act.put,List.setIfInBounds_toArray,List.set_cons_succ,List.set_cons_zero,Nat.reduceAdd];rfl) (by kernel_rfl) (by kernel_rfl) (by kernel_rfl) (by kernel_rfl) (zuF _ _ _ _ _ _ _) ?_ ?_
 ·refine zab (fun vals u hb hf=>?_) (zab (fun vals u hb hf=>?_) (zab (fun vals u hb hf=>?_) (zab (fun vals u hb hf=>?_) (zab (fun vals u hb hf=>?_) (zab (fun vals u hb hf=>?_) (zab (fun vals u hb hf=>?_) (zab (fun vals u hb hf=>?_) (zab (fun vals u hb hf=>?_) (zab (fun vals u hb hf=>?_) (zab (fun vals u hb hf=>?_) (zab (fun vals u hb hf=>?_) zcb)))))))))))
  ·go_wp2_with fail;exact zaa _ rfl rfl (Below.refl _ _)
  ·obtain ⟨(h0:vals 0=.pointer (some ⟨b,0,none⟩)),_⟩:=hf;simp only [h0];clear h0;go_wp2_with fail;exact zaa _ rfl rfl (Below.refl _ _)
  ·obtain ⟨(h1:vals 1=.pointer (some ⟨b,0,none⟩)),_⟩:=hf;simp only [h1];clear h1;go_wp2_with fail;exact zaa _ rfl rfl (Below.refl _ _)
  ·obtain ⟨(h2:vals 2=.pointer (some ⟨b,8483,none⟩)),_⟩:=hf;simp only [h2];clear h2;have H:=X0.out.1.next hb;refine zaw rfl 43 (.tmp 10) rfl b 8483 rfl H 514 (by decide) q SG.out _ Tryz.underlying43 rfl (by kernel_rfl) ?_;exact zaa _ rfl rfl (Below.refl _ _)
  ·go_wp2_with fail;exact zaa _ rfl rfl (Below.refl _ _)
  ·obtain ⟨(h4:vals 4=.pointer (some ⟨z,2,none⟩)),_⟩:=hf;simp only [h4];clear h4;have c2:=(hb.cell (p:=⟨z,2,none⟩) lz.out).trans p2.out;go_wp2_with fail;exact zaa _ rfl rfl (Below.refl _ _)
  ·obtain ⟨(h3:vals 3=.agg (rowF q 514)),(h5:vals 5=.int .i64 a),_⟩:=hf;simp only [h3,h5];clear h3 h5;go_wp2_with fail;refine (V0.out _).mono ?_;rintro e u2 ⟨rfl,b2⟩;have B2:=hide b2;clear b2;go_wp2_with fail;exact zaa _ rfl rfl B2.out
  ·obtain ⟨(h6:vals 6=.tuple #[.int .i64 x,.agg (rowF q' 514)]),_⟩:=hf;simp only [h6];clear h6;go_wp2_with fail;exact zaa _ rfl rfl (Below.refl _ _)
  ·obtain ⟨(h7:vals 7=.tuple #[.int .i64 x,.agg (rowF q' 514)]),_⟩:=hf;simp only [h7];clear h7;go_wp2_with fail;exact zaa _ rfl rfl (Below.refl _ _)
  ·obtain ⟨(h7:vals 7=.tuple #[.int .i64 x,.agg (rowF q' 514)]),_⟩:=hf;simp only [h7];clear h7;go_wp2_with fail;exact zaa _ rfl rfl (Below.refl _ _)
  ·refine zav rfl 43 rfl (rowF (iv fun _=>0) 514) zri ?_;exact zaa _ rfl ⟨_,rfl,zbo _ _ _ _,hb.size⟩ ((Below.refl _ _).alloc (Nat.le_refl _) _)
  ·obtain ⟨(h8:vals 8=.int .i64 x),_⟩:=hf;simp only [h8];clear h8;go_wp2_with fail;exact zaa _ rfl rfl (Below.refl _ _)
 intro vals w1 b1 hall;obtain ⟨_,_,_,_,_,_,_,_,_,(h9:vals 9=.agg (rowF q' 514)),⟨n,h10,m10,n10⟩,(h11:vals 11=.int .i64 x),_⟩:=hall;simp only [h9,h10,h11];have H1:=hide (X0.out.1.next b1);have B1:=hide (B0.out.andBelow b1);have NB:=hide (show b≠n from Nat.ne_of_lt (Nat.lt_of_lt_of_le X0.out.1.lt n10));have M1:=hide m10;have N1:=hide (show w.heap.size≤n by rw [hz.out];exact Nat.le_trans (Nat.le_of_lt lz.out) n10);clear h9 h10 h11 b1 m10 n10 V0 SG;refine wpList_store_row rfl 43 (.tmp 6) (.tmp 16) rfl n _ rfl rfl 43 _ M1.out ZI.out ZS.out ZO.out ?_;refine zaj fun w3 hw3=>?_
 have M3:=hide (show w3.heap[n]? = some (.cells (rowF q' 514) 43 (0,0)) by rw [hw3];exact setRow_heap _ _ _ _ _ _ M1.out);have H3:=hide (show HasF 60 w3 b 9263 (segs L) by rw [hw3];exact H1.out.row _ NB.out);have B3:=hide (show But b w w3 by rw [hw3];exact But.fresh B1.out N1.out _);clear hw3
 go_wp2_with (first
  |(refine wpList_load_row rfl 43 (.tmp 6) rfl n rfl _ _ _ _ M3.out Tryz.underlying43 rfl ZI.out ?_)
  |(refine zau rfl 43 (.tmp 20) (.tmp 18) rfl b 8483 514 q' rfl rfl H3.out (by decide) (by kernel_rfl) G1.out ?_
    refine zaj fun w4 hw4=>?_
    have H4:Hid (HasF 60 w4 b 9263 (segs (L.set 10 (514,q')))):=hide (by rw [hw4];exact H3.out.lay 10 E10.out q' (HB.out.off 10 rfl));have B4:Hid (But b w w4):=hide (by rw [hw4];exact But.cells _ _ _ B3.out)
    clear hw4 H3 M3))
 go_ret;exact ⟨rfl,HE.out.lay B4.out 10 E10.out H4.out (by decide) (by decide),zbr B4.out⟩
theorem zlh (h:HasX w b v c d L bs f wr rd st lo bu) (k g a:Int) (KS:∀w,HasX w b v c d L bs f wr rd st lo bu→Calls Tryz.prog 31 #[.pointer (some ⟨b,0,none⟩)] w fun e w'=>e=Ending.returned (.tuple #[])∧HasX w' b v c d L2 bs f wr rd st lo bu∧OnlyE (EX b v) w w') {u y:Int} {t:Nat→Value} (h16:L2[16]? = some (1,fun _=>Value.int .i64 hd)) (h12:L2[12]? = some (4,t)) (hu:bits .and .i64 hd 128=u) (hx:bits .or .i64 u y=x)
  (KT:∀w,Calls Tryz.prog 177 #[.agg (rowF t 4)] w fun e w'=>e=Ending.returned (.int .i64 y)∧Below w.heap.size w w'):Calls Tryz.prog 113 #[.pointer (some ⟨b,0,none⟩),.agg #[.int .i64 k,.int .i64 g,.int .i64 a]] w fun e w'=>e=Ending.returned (.int .i64 x)∧HasX w' b v c d (L2.set 16 (1,fun _=>Value.int .i64 x)) bs f wr rd st lo bu∧OnlyE (EX b v) w w':=by
 have T0:=hide KT;have E12:=hide h12;have hv:=h.2.1.lt;have IT:Hid ((Tryz.prog.info? 51).map (·.size)=some (rowF t 4).size):=hide (by rw [zai];kernel_rfl);clear KT h12;have b0:=(Below.refl _ w).alloc (Nat.le_refl _) (.cells #[.int .i64 k,.int .i64 g,.int .i64 a] 216);have X0:=hide (h.next b0);have B0:=hide (zay (b:=b) (v:=v) b0);have S0:=hide (KS _ X0.out);have E16:=hide h16;have HL:=hide h.1.lt;clear h b0 KS h16;go_enter Tryz.func113,Tryz.ntmps113;go_wp2_with fail;refine S0.out.mono ?_;rintro e w2 ⟨rfl,x2,o2⟩;have X2:=hide x2;have O2:=hide (B0.out.trans o2);have sz:w.heap.size<(w.alloc (.cells #[.int .i64 k,.int .i64 g,.int .i64 a] 216)).heap.size:=by simp
 have LZ:=hide (Nat.lt_of_lt_of_le sz o2.size);have P2:=hide (show w2.cell? ⟨w.heap.size,2,none⟩=some (.int .i64 a) from (zdP (o2.block w.heap.size sz (fun e=>by have hl:=HL.out;rcases e with e|e<;>omega)) 2).trans ((cell_of_row _ _ 2 _ _ _ (heap_alloc_new _ _)).trans rfl));clear sz hv;clear x2 o2 S0 X0 B0;go_wp2_with fail;have R12:=hide (X2.out.1.range 9241 4 (by decide));rw [zbh (X2.out.1.seg 12 E12.out (a:=9241) (X2.out.isB.off 12 rfl))] at R12;have i16:=zah (X2.out.1.get1 16 E16.out (a:=9261) (X2.out.isB.off 16 rfl) (by decide)) X2.out.1.lt;have HL2:=hide X2.out.1.lt;generalize rowF t 4=A at *;haveI:=zax w2;refine zaq _ _ (show _=[_,_,_,_,_,_,_,_,_,_,_,_,_,_]++[_] from rfl) (by kernel_rfl) (by kernel_rfl) (by kernel_rfl) ?_
 repeat (first
  |(refine wpQuiet_mid rfl 51 (.tmp 15) rfl b 9241 rfl A _ (fun w' ⟨x,hx⟩=>by rw [hx];intro j y hy;rw [x.cell b _ HL2.out];exact R12.out j y hy) Tryz.underlying51 rfl IT.out ?_;simp only [Act.put,List.setIfInBounds_toArray,List.set_cons_succ,List.set_cons_zero])
  |go_big_quiet_step ((go_at_call 177;exact zaL (T0.out _))))
 refine wpQuiet_nil ?_;rintro _ ⟨wk,rfl⟩;have X3:=hide (X2.out.next wk.below);have c16:=X3.out.1.get1 16 E16.out (a:=9261) (X3.out.isB.off 16 rfl) (by decide);have z16:=X3.out.1.frozen 9261;have O3:=hide (O2.out.trans (zay wk.below));have H4:=hide (X3.out.1.put1 16 E16.out (a:=9261) (X3.out.isB.off 16 rfl) (.int .i64 x));generalize wk.val=w3 at *;clear i16 X2 O2;go_wp2;go_ret;have B4:=(But.refl b w3).set 9261 (.int .i64 x);exact ⟨rfl,X3.out.lay B4 16 E16.out H4.out (by decide) (by decide),O3.out.trans (zbr B4)⟩
theorem zoM (h:HasX w b v c d L bs f wr rd st lo bu) (k g a:Int) (ha:a=2∨a=3) (KS:∀w,HasX w b v c d L bs f wr rd st lo bu→Calls Tryz.prog 31 #[.pointer (some ⟨b,0,none⟩)] w fun e w'=>e=Ending.returned (.tuple #[])∧HasX w' b v c d L2 bs f wr rd st lo bu∧OnlyE (EX b v) w w') {u y:Int}  (h16:L2[16]? = some (1,fun _=>Value.int .i64 hd)) (h13:L2[13]? = some (2,s)) (hu:bits .and .i64 hd 248=u) (hx:bits .or .i64 u y=x)
  (KI:∀w,Calls Tryz.prog 179 #[.agg (rowF s 2),.int .i64 a] w fun e w'=>e=Ending.returned (.int .i64 y)∧Below w.heap.size w w'):Calls Tryz.prog 115 #[.pointer (some ⟨b,0,none⟩),.agg #[.int .i64 k,.int .i64 g,.int .i64 a]] w fun e w'=>e=Ending.returned (.int .i64 x)∧HasX w' b v c d (L2.set 16 (1,fun _=>Value.int .i64 x)) bs f wr rd st lo bu∧OnlyE (EX b v) w w':=by
 have T0:=hide KI;have E13:=hide h13;have hv:=h.2.1.lt;have IT:Hid ((Tryz.prog.info? 53).map (·.size)=some (rowF s 2).size):=hide (by rw [zai];kernel_rfl);clear KI h13;rcases ha with ha|ha
 ·have e2:(a==2)=true:=by simp [ha]
  clear ha;have b0:=(Below.refl _ w).alloc (Nat.le_refl _) (.cells #[.int .i64 k,.int .i64 g,.int .i64 a] 216);have X0:=hide (h.next b0);have B0:=hide (zay (b:=b) (v:=v) b0);have S0:=hide (KS _ X0.out);have E16:=hide h16;have HL:=hide h.1.lt;clear h b0 KS h16;go_enter Tryz.func115,Tryz.ntmps115;go_wp2_with fail;refine S0.out.mono ?_;rintro e w2 ⟨rfl,x2,o2⟩;have X2:=hide x2;have O2:=hide (B0.out.trans o2);have sz:w.heap.size<(w.alloc (.cells #[.int .i64 k,.int .i64 g,.int .i64 a] 216)).heap.size:=by simp
  have LZ:=hide (Nat.lt_of_lt_of_le sz o2.size);have P2:=hide (show w2.cell? ⟨w.heap.size,2,none⟩=some (.int .i64 a) from (zdP (o2.block w.heap.size sz (fun e=>by have hl:=HL.out;rcases e with e|e<;>omega)) 2).trans ((cell_of_row _ _ 2 _ _ _ (heap_alloc_new _ _)).trans rfl));clear sz hv;clear x2 o2 S0 X0 B0;go_wp2_with fail;have R13:=hide (X2.out.1.range 9245 2 (by decide));rw [zbh (X2.out.1.seg 13 E13.out (a:=9245) (X2.out.isB.off 13 rfl))] at R13;have i16:=zah (X2.out.1.get1 16 E16.out (a:=9261) (X2.out.isB.off 16 rfl) (by decide)) X2.out.1.lt;have HL2:=hide X2.out.1.lt;have i2:=zah P2.out LZ.out;generalize w.heap.size=z at *;generalize rowF s 2=A at *;haveI:=zax w2;refine zaq _ _ (show _=[_,_,_,_,_,_,_,_,_,_,_,_,_,_,_,_]++[_] from rfl) (by kernel_rfl) (by kernel_rfl) (by kernel_rfl) ?_
  repeat (first
   |(refine wpQuiet_mid rfl 53 (.tmp 23) rfl b 9245 rfl A _ (fun w' ⟨x,hx⟩=>by rw [hx];intro j y hy;rw [x.cell b _ HL2.out];exact R13.out j y hy) Tryz.underlying53 rfl IT.out ?_;simp only [Act.put,List.setIfInBounds_toArray,List.set_cons_succ,List.set_cons_zero])
   |go_big_quiet_step ((go_at_call 179;exact zaL (T0.out _))))
  refine wpQuiet_nil ?_;rintro _ ⟨wk,rfl⟩;have X3:=hide (X2.out.next wk.below);have c16:=X3.out.1.get1 16 E16.out (a:=9261) (X3.out.isB.off 16 rfl) (by decide);have z16:=X3.out.1.frozen 9261;have O3:=hide (O2.out.trans (zay wk.below));have H4:=hide (X3.out.1.put1 16 E16.out (a:=9261) (X3.out.isB.off 16 rfl) (.int .i64 x));generalize wk.val=w3 at *;clear i16 X2 O2;go_wp2;go_ret;have B4:=(But.refl b w3).set 9261 (.int .i64 x);exact ⟨rfl,X3.out.lay B4 16 E16.out H4.out (by decide) (by decide),O3.out.trans (zbr B4)⟩
 ·have e2:(a==2)=false:=by simp [ha]
  have e3:(a==3)=true:=by simp [ha]
  clear ha;have b0:=(Below.refl _ w).alloc (Nat.le_refl _) (.cells #[.int .i64 k,.int .i64 g,.int .i64 a] 216);have X0:=hide (h.next b0);have B0:=hide (zay (b:=b) (v:=v) b0);have S0:=hide (KS _ X0.out);have E16:=hide h16;have HL:=hide h.1.lt;clear h b0 KS h16;go_enter Tryz.func115,Tryz.ntmps115;go_wp2_with fail;refine S0.out.mono ?_;rintro e w2 ⟨rfl,x2,o2⟩;have X2:=hide x2;have O2:=hide (B0.out.trans o2);have sz:w.heap.size<(w.alloc (.cells #[.int .i64 k,.int .i64 g,.int .i64 a] 216)).heap.size:=by simp
  have LZ:=hide (Nat.lt_of_lt_of_le sz o2.size);have P2:=hide (show w2.cell? ⟨w.heap.size,2,none⟩=some (.int .i64 a) from (zdP (o2.block w.heap.size sz (fun e=>by have hl:=HL.out;rcases e with e|e<;>omega)) 2).trans ((cell_of_row _ _ 2 _ _ _ (heap_alloc_new _ _)).trans rfl));clear sz hv;clear x2 o2 S0 X0 B0;go_wp2_with fail;have R13:=hide (X2.out.1.range 9245 2 (by decide));rw [zbh (X2.out.1.seg 13 E13.out (a:=9245) (X2.out.isB.off 13 rfl))] at R13;have i16:=zah (X2.out.1.get1 16 E16.out (a:=9261) (X2.out.isB.off 16 rfl) (by decide)) X2.out.1.lt;have HL2:=hide X2.out.1.lt;have i2:=zah P2.out LZ.out;generalize w.heap.size=z at *;generalize rowF s 2=A at *;haveI:=zax w2;refine zaq _ _ (show _=[_,_,_,_,_,_,_,_,_,_,_,_,_,_,_,_]++[_] from rfl) (by kernel_rfl) (by kernel_rfl) (by kernel_rfl) ?_
  repeat (first
   |(refine wpQuiet_mid rfl 53 (.tmp 23) rfl b 9245 rfl A _ (fun w' ⟨x,hx⟩=>by rw [hx];intro j y hy;rw [x.cell b _ HL2.out];exact R13.out j y hy) Tryz.underlying53 rfl IT.out ?_;simp only [Act.put,List.setIfInBounds_toArray,List.set_cons_succ,List.set_cons_zero])
   |go_big_quiet_step ((go_at_call 179;exact zaL (T0.out _))))
  refine wpQuiet_nil ?_;rintro _ ⟨wk,rfl⟩;have X3:=hide (X2.out.next wk.below);have c16:=X3.out.1.get1 16 E16.out (a:=9261) (X3.out.isB.off 16 rfl) (by decide);have z16:=X3.out.1.frozen 9261;have O3:=hide (O2.out.trans (zay wk.below));have H4:=hide (X3.out.1.put1 16 E16.out (a:=9261) (X3.out.isB.off 16 rfl) (.int .i64 x));generalize wk.val=w3 at *;clear i16 X2 O2;go_wp2;go_ret;have B4:=(But.refl b w3).set 9261 (.int .i64 x);exact ⟨rfl,X3.out.lay B4 16 E16.out H4.out (by decide) (by decide),O3.out.trans (zbr B4)⟩
theorem zoN (h:HasX w b v c d L bs f wr rd st lo bu) (k g a:Int) (a2:¬a=2) (a3:¬a=3) (h16:L[16]? = some (1,fun _=>Value.int .i64 x)):Calls Tryz.prog 115 #[.pointer (some ⟨b,0,none⟩),.agg #[.int .i64 k,.int .i64 g,.int .i64 a]] w fun e w'=>e=Ending.returned (.int .i64 x)∧HasX w' b v c d L bs f wr rd st lo bu∧OnlyE (EX b v) w w':=by
 have c16:=h.1.get1 16 h16 (a:=9261) (h.isB.off 16 rfl) (by decide);have HL:=h.1.lt;have HE:=hide h;have e2:(a==2)=false:=by simp [a2]
 have e3:(a==3)=false:=by simp [a3]
 clear h h16;go_enter Tryz.func115,Tryz.ntmps115;go_wp2;go_ret;have B:=(Below.refl _ w).alloc (Nat.le_refl _) (.cells #[.int .i64 k,.int .i64 g,.int .i64 a] 216);exact ⟨rfl,HE.out.next B,zay B⟩
theorem zoO (h:HasX w b v c d L bs f wr rd st lo bu) (k g a:Int) {po pa:Nat→Value} (h16:L[16]? = some (1,fun _=>Value.int .i64 hd)) (h14:L[14]? = some (4,po)) (h15:L[15]? = some (10,pa))
  (KP:∀w,Calls Tryz.prog 178 #[.agg (rowF po 4),.agg (rowF pa 10),.bool false] w fun e w'=>e=Ending.returned (.int .i64 x)∧Below w.heap.size w w'):Calls Tryz.prog 114 #[.pointer (some ⟨b,0,none⟩),.agg #[.int .i64 k,.int .i64 g,.int .i64 a]] w fun e w'=>e=Ending.returned (.int .i64 x)∧HasX w' b v c d (L.set 16 (1,fun _=>Value.int .i64 x)) bs f wr rd st lo bu∧OnlyE (EX b v) w w':=by
 have T0:=hide KP;have I14:Hid ((Tryz.prog.info? 55).map (·.size)=some (rowF po 4).size):=hide (by rw [zai];kernel_rfl);have I15:Hid ((Tryz.prog.info? 58).map (·.size)=some (rowF pa 10).size):=hide (by rw [zai];kernel_rfl);have b0:=(Below.refl _ w).alloc (Nat.le_refl _) (.cells #[.int .i64 k,.int .i64 g,.int .i64 a] 216);have X2:=hide (h.next b0);have O2:=hide (zay (b:=b) (v:=v) b0);have R14:=hide (X2.out.1.range 9247 4 (by decide));rw [zbh (X2.out.1.seg 14 h14 (a:=9247) (h.isB.off 14 rfl))] at R14;have R15:=hide (X2.out.1.range 9251 10 (by decide));rw [zbh (X2.out.1.seg 15 h15 (a:=9251) (h.isB.off 15 rfl))] at R15;have HL:=hide X2.out.1.lt;have E16:=hide h16;clear h b0 KP h16 h14 h15;go_enter Tryz.func114,Tryz.ntmps114;go_wp2_with fail;generalize (w.alloc (.cells #[.int .i64 k,.int .i64 g,.int .i64 a] 216))=w2 at *;generalize rowF po 4=A at *;generalize rowF pa 10=B at *;haveI:=zax w2;refine zaq _ _ (show _=[_,_,_,_,_,_,_,_,_,_,_,_]++[_] from rfl) (by kernel_rfl) (by kernel_rfl) (by kernel_rfl) ?_
 repeat (first
  |(refine wpQuiet_mid rfl 55 (.tmp 8) rfl b 9247 rfl A _ (fun w' ⟨x,hx⟩=>by rw [hx];intro j y hy;rw [x.cell b _ HL.out];exact R14.out j y hy) Tryz.underlying55 rfl I14.out ?_;simp only [Act.put,List.setIfInBounds_toArray,List.set_cons_succ,List.set_cons_zero])
  |(refine wpQuiet_mid rfl 58 (.tmp 12) rfl b 9251 rfl B _ (fun w' ⟨x,hx⟩=>by rw [hx];intro j y hy;rw [x.cell b _ HL.out];exact R15.out j y hy) Tryz.underlying58 rfl I15.out ?_;simp only [Act.put,List.setIfInBounds_toArray,List.set_cons_succ,List.set_cons_zero])
  |go_big_quiet_step ((go_at_call 178;exact zaL (T0.out _))))
 refine wpQuiet_nil ?_;rintro _ ⟨wk,rfl⟩;have X3:=hide (X2.out.next wk.below);have c16:=X3.out.1.get1 16 E16.out (a:=9261) (X3.out.isB.off 16 rfl) (by decide);have z16:=X3.out.1.frozen 9261;have O3:=hide (O2.out.trans (zay wk.below));have H4:=hide (X3.out.1.put1 16 E16.out (a:=9261) (X3.out.isB.off 16 rfl) (.int .i64 x));generalize wk.val=w3 at *;clear T0 X2 O2;go_wp2;go_ret;have B4:=(But.refl b w3).set 9261 (.int .i64 x);exact ⟨rfl,X3.out.lay B4 16 E16.out H4.out (by decide) (by decide),O3.out.trans (zbr B4)⟩
theorem zuG (h:HasX w b v c d L bs f wr rd st lo bu) (p g a:Int) (KW:∀w,HasPorts w→Calls Tryz.prog 106 #[.int .i64 p] w fun e w'=>e=Ending.returned (.agg #[.int .i64 0,.int .i64 g,.int .i64 a])∧Below w.heap.size w w') (KR:∀w1,Below w.heap.size w w1→Calls Tryz.prog 108 #[.pointer (some ⟨b,0,none⟩),.agg #[.int .i64 0,.int .i64 g,.int .i64 a]] w1 fun e w'=>e=Ending.returned (.int .i64 x)∧R w'):
  Calls Tryz.prog 67 #[.pointer (some ⟨b,0,none⟩),.int .i64 p] w fun e w'=>e=Ending.returned (.int .i64 x)∧R w':=by
 have MI:=hide (zaP h);have HT:=hide h.tabs;have W0:=hide KW;have R0:=hide KR;clear h KW KR;go_enter Tryz.func67,Tryz.ntmps67
 go_wp2_with (first
  |(go_at_call 63;refine MI.out.mono ?_;rintro e w1 ⟨rfl,b1⟩;have B1:=hide b1;have W1:=hide (W0.out w1 (HT.out.next b1).2.1);clear b1 MI W0)
  |(go_at_call 106;refine W1.out.mono ?_;rintro e w2 ⟨rfl,b2⟩;have B2:=hide (zaz B1.out b2);clear b2 W1 B1)
  |(refine wpList_store_row rfl 216 (.tmp 5) (.tmp 10) rfl w2.heap.size _ rfl rfl 216 _ (heap_alloc_new _ _) (by kernel_rfl) rfl (by kernel_rfl) ?_
    refine zaj fun w3 hw3=>?_
    have M3:Hid (w3.heap[w2.heap.size]? = some (.cells #[.int .i64 0,.int .i64 g,.int .i64 a] 216 (0,0))):=hide (by rw [hw3];exact setRow_heap _ _ _ _ _ _ (heap_alloc_new _ _));have B3:=hide (show Below w.heap.size w w3 by rw [hw3];exact zaz B2.out (below_setRow ((Below.refl _ _).alloc (Nat.le_refl _) _) (Nat.le_refl _) _));have c0:=(cell_of_row w3 w2.heap.size 0 _ _ _ M3.out).trans rfl
    clear hw3 B2)
  |(refine wpList_load_row rfl 216 (.tmp 5) rfl w2.heap.size rfl _ _ _ _ M3.out Tryz.underlying216 rfl (by kernel_rfl) ?_))
 refine (R0.out _ B3.out).mono ?_;rintro e w4 ⟨rfl,h4⟩;have H4:=hide h4;clear h4 R0;go_wp2;go_ret;exact ⟨rfl,H4.out⟩
theorem zuH (h:HasX w b v c d L bs f wr rd st lo bu) (p g a:Int) (KW:∀w,HasPorts w→Calls Tryz.prog 106 #[.int .i64 p] w fun e w'=>e=Ending.returned (.agg #[.int .i64 1,.int .i64 g,.int .i64 a])∧Below w.heap.size w w') (KR:∀w1,Below w.heap.size w w1→Calls Tryz.prog 109 #[.pointer (some ⟨b,0,none⟩),.agg #[.int .i64 1,.int .i64 g,.int .i64 a]] w1 fun e w'=>e=Ending.returned (.int .i64 x)∧R w'):
  Calls Tryz.prog 67 #[.pointer (some ⟨b,0,none⟩),.int .i64 p] w fun e w'=>e=Ending.returned (.int .i64 x)∧R w':=by
 have MI:=hide (zaP h);have HT:=hide h.tabs;have W0:=hide KW;have R0:=hide KR;clear h KW KR;go_enter Tryz.func67,Tryz.ntmps67
 go_wp2_with (first
  |(go_at_call 63;refine MI.out.mono ?_;rintro e w1 ⟨rfl,b1⟩;have B1:=hide b1;have W1:=hide (W0.out w1 (HT.out.next b1).2.1);clear b1 MI W0)
  |(go_at_call 106;refine W1.out.mono ?_;rintro e w2 ⟨rfl,b2⟩;have B2:=hide (zaz B1.out b2);clear b2 W1 B1)
  |(refine wpList_store_row rfl 216 (.tmp 5) (.tmp 10) rfl w2.heap.size _ rfl rfl 216 _ (heap_alloc_new _ _) (by kernel_rfl) rfl (by kernel_rfl) ?_
    refine zaj fun w3 hw3=>?_
    have M3:Hid (w3.heap[w2.heap.size]? = some (.cells #[.int .i64 1,.int .i64 g,.int .i64 a] 216 (0,0))):=hide (by rw [hw3];exact setRow_heap _ _ _ _ _ _ (heap_alloc_new _ _));have B3:=hide (show Below w.heap.size w w3 by rw [hw3];exact zaz B2.out (below_setRow ((Below.refl _ _).alloc (Nat.le_refl _) _) (Nat.le_refl _) _));have c0:=(cell_of_row w3 w2.heap.size 0 _ _ _ M3.out).trans rfl
    clear hw3 B2)
  |(refine wpList_load_row rfl 216 (.tmp 5) rfl w2.heap.size rfl _ _ _ _ M3.out Tryz.underlying216 rfl (by kernel_rfl) ?_))
 refine (R0.out _ B3.out).mono ?_;rintro e w4 ⟨rfl,h4⟩;have H4:=hide h4;clear h4 R0;go_wp2;go_ret;exact ⟨rfl,H4.out⟩
theorem zhA (h:HasX w b v c d L bs f wr rd st lo bu) (p g a:Int) (KW:∀w,HasPorts w→Calls Tryz.prog 106 #[.int .i64 p] w fun e w'=>e=Ending.returned (.agg #[.int .i64 2,.int .i64 g,.int .i64 a])∧Below w.heap.size w w') (KR:∀w1,Below w.heap.size w w1→Calls Tryz.prog 110 #[.pointer (some ⟨b,0,none⟩),.agg #[.int .i64 2,.int .i64 g,.int .i64 a]] w1 fun e w'=>e=Ending.returned (.int .i64 x)∧R w'):
  Calls Tryz.prog 67 #[.pointer (some ⟨b,0,none⟩),.int .i64 p] w fun e w'=>e=Ending.returned (.int .i64 x)∧R w':=by
 have MI:=hide (zaP h);have HT:=hide h.tabs;have W0:=hide KW;have R0:=hide KR;clear h KW KR;go_enter Tryz.func67,Tryz.ntmps67
 go_wp2_with (first
  |(go_at_call 63;refine MI.out.mono ?_;rintro e w1 ⟨rfl,b1⟩;have B1:=hide b1;have W1:=hide (W0.out w1 (HT.out.next b1).2.1);clear b1 MI W0)
  |(go_at_call 106;refine W1.out.mono ?_;rintro e w2 ⟨rfl,b2⟩;have B2:=hide (zaz B1.out b2);clear b2 W1 B1)
  |(refine wpList_store_row rfl 216 (.tmp 5) (.tmp 10) rfl w2.heap.size _ rfl rfl 216 _ (heap_alloc_new _ _) (by kernel_rfl) rfl (by kernel_rfl) ?_
    refine zaj fun w3 hw3=>?_
    have M3:Hid (w3.heap[w2.heap.size]? = some (.cells #[.int .i64 2,.int .i64 g,.int .i64 a] 216 (0,0))):=hide (by rw [hw3];exact setRow_heap _ _ _ _ _ _ (heap_alloc_new _ _));have B3:=hide (show Below w.heap.size w w3 by rw [hw3];exact zaz B2.out (below_setRow ((Below.refl _ _).alloc (Nat.le_refl _) _) (Nat.le_refl _) _));have c0:=(cell_of_row w3 w2.heap.size 0 _ _ _ M3.out).trans rfl
    clear hw3 B2)
  |(refine wpList_load_row rfl 216 (.tmp 5) rfl w2.heap.size rfl _ _ _ _ M3.out Tryz.underlying216 rfl (by kernel_rfl) ?_))
 refine (R0.out _ B3.out).mono ?_;rintro e w4 ⟨rfl,h4⟩;have H4:=hide h4;clear h4 R0;go_wp2;go_ret;exact ⟨rfl,H4.out⟩
theorem zuI (h:HasX w b v c d L bs f wr rd st lo bu) (p g a:Int) (KW:∀w,HasPorts w→Calls Tryz.prog 106 #[.int .i64 p] w fun e w'=>e=Ending.returned (.agg #[.int .i64 3,.int .i64 g,.int .i64 a])∧Below w.heap.size w w') (KR:∀w1,Below w.heap.size w w1→Calls Tryz.prog 111 #[.pointer (some ⟨b,0,none⟩),.agg #[.int .i64 3,.int .i64 g,.int .i64 a]] w1 fun e w'=>e=Ending.returned (.int .i64 x)∧R w'):
  Calls Tryz.prog 67 #[.pointer (some ⟨b,0,none⟩),.int .i64 p] w fun e w'=>e=Ending.returned (.int .i64 x)∧R w':=by
 have MI:=hide (zaP h);have HT:=hide h.tabs;have W0:=hide KW;have R0:=hide KR;clear h KW KR;go_enter Tryz.func67,Tryz.ntmps67
 go_wp2_with (first
  |(go_at_call 63;refine MI.out.mono ?_;rintro e w1 ⟨rfl,b1⟩;have B1:=hide b1;have W1:=hide (W0.out w1 (HT.out.next b1).2.1);clear b1 MI W0)
  |(go_at_call 106;refine W1.out.mono ?_;rintro e w2 ⟨rfl,b2⟩;have B2:=hide (zaz B1.out b2);clear b2 W1 B1)
  |(refine wpList_store_row rfl 216 (.tmp 5) (.tmp 10) rfl w2.heap.size _ rfl rfl 216 _ (heap_alloc_new _ _) (by kernel_rfl) rfl (by kernel_rfl) ?_
    refine zaj fun w3 hw3=>?_
    have M3:Hid (w3.heap[w2.heap.size]? = some (.cells #[.int .i64 3,.int .i64 g,.int .i64 a] 216 (0,0))):=hide (by rw [hw3];exact setRow_heap _ _ _ _ _ _ (heap_alloc_new _ _));have B3:=hide (show Below w.heap.size w w3 by rw [hw3];exact zaz B2.out (below_setRow ((Below.refl _ _).alloc (Nat.le_refl _) _) (Nat.le_refl _) _));have c0:=(cell_of_row w3 w2.heap.size 0 _ _ _ M3.out).trans rfl
    clear hw3 B2)
  |(refine wpList_load_row rfl 216 (.tmp 5) rfl w2.heap.size rfl _ _ _ _ M3.out Tryz.underlying216 rfl (by kernel_rfl) ?_))
 refine (R0.out _ B3.out).mono ?_;rintro e w4 ⟨rfl,h4⟩;have H4:=hide h4;clear h4 R0;go_wp2;go_ret;exact ⟨rfl,H4.out⟩
theorem zuJ (h:HasX w b v c d L bs f wr rd st lo bu) (p g a:Int) (KW:∀w,HasPorts w→Calls Tryz.prog 106 #[.int .i64 p] w fun e w'=>e=Ending.returned (.agg #[.int .i64 4,.int .i64 g,.int .i64 a])∧Below w.heap.size w w') (KR:∀w1,Below w.heap.size w w1→Calls Tryz.prog 112 #[.pointer (some ⟨b,0,none⟩),.agg #[.int .i64 4,.int .i64 g,.int .i64 a]] w1 fun e w'=>e=Ending.returned (.int .i64 x)∧R w'):
  Calls Tryz.prog 67 #[.pointer (some ⟨b,0,none⟩),.int .i64 p] w fun e w'=>e=Ending.returned (.int .i64 x)∧R w':=by
 have MI:=hide (zaP h);have HT:=hide h.tabs;have W0:=hide KW;have R0:=hide KR;clear h KW KR;go_enter Tryz.func67,Tryz.ntmps67
 go_wp2_with (first
  |(go_at_call 63;refine MI.out.mono ?_;rintro e w1 ⟨rfl,b1⟩;have B1:=hide b1;have W1:=hide (W0.out w1 (HT.out.next b1).2.1);clear b1 MI W0)
  |(go_at_call 106;refine W1.out.mono ?_;rintro e w2 ⟨rfl,b2⟩;have B2:=hide (zaz B1.out b2);clear b2 W1 B1)
  |(refine wpList_store_row rfl 216 (.tmp 5) (.tmp 10) rfl w2.heap.size _ rfl rfl 216 _ (heap_alloc_new _ _) (by kernel_rfl) rfl (by kernel_rfl) ?_
    refine zaj fun w3 hw3=>?_
    have M3:Hid (w3.heap[w2.heap.size]? = some (.cells #[.int .i64 4,.int .i64 g,.int .i64 a] 216 (0,0))):=hide (by rw [hw3];exact setRow_heap _ _ _ _ _ _ (heap_alloc_new _ _));have B3:=hide (show Below w.heap.size w w3 by rw [hw3];exact zaz B2.out (below_setRow ((Below.refl _ _).alloc (Nat.le_refl _) _) (Nat.le_refl _) _));have c0:=(cell_of_row w3 w2.heap.size 0 _ _ _ M3.out).trans rfl
    clear hw3 B2)
  |(refine wpList_load_row rfl 216 (.tmp 5) rfl w2.heap.size rfl _ _ _ _ M3.out Tryz.underlying216 rfl (by kernel_rfl) ?_))
 refine (R0.out _ B3.out).mono ?_;rintro e w4 ⟨rfl,h4⟩;have H4:=hide h4;clear h4 R0;go_wp2;go_ret;exact ⟨rfl,H4.out⟩
theorem zoP (h:HasX w b v c d L bs f wr rd st lo bu) (p g a:Int) (KW:∀w,HasPorts w→Calls Tryz.prog 106 #[.int .i64 p] w fun e w'=>e=Ending.returned (.agg #[.int .i64 5,.int .i64 g,.int .i64 a])∧Below w.heap.size w w') (KR:∀w1,Below w.heap.size w w1→Calls Tryz.prog 113 #[.pointer (some ⟨b,0,none⟩),.agg #[.int .i64 5,.int .i64 g,.int .i64 a]] w1 fun e w'=>e=Ending.returned (.int .i64 x)∧R w'):
  Calls Tryz.prog 67 #[.pointer (some ⟨b,0,none⟩),.int .i64 p] w fun e w'=>e=Ending.returned (.int .i64 x)∧R w':=by
 have MI:=hide (zaP h);have HT:=hide h.tabs;have W0:=hide KW;have R0:=hide KR;clear h KW KR;go_enter Tryz.func67,Tryz.ntmps67
 go_wp2_with (first
  |(go_at_call 63;refine MI.out.mono ?_;rintro e w1 ⟨rfl,b1⟩;have B1:=hide b1;have W1:=hide (W0.out w1 (HT.out.next b1).2.1);clear b1 MI W0)
  |(go_at_call 106;refine W1.out.mono ?_;rintro e w2 ⟨rfl,b2⟩;have B2:=hide (zaz B1.out b2);clear b2 W1 B1)
  |(refine wpList_store_row rfl 216 (.tmp 5) (.tmp 10) rfl w2.heap.size _ rfl rfl 216 _ (heap_alloc_new _ _) (by kernel_rfl) rfl (by kernel_rfl) ?_
    refine zaj fun w3 hw3=>?_
    have M3:Hid (w3.heap[w2.heap.size]? = some (.cells #[.int .i64 5,.int .i64 g,.int .i64 a] 216 (0,0))):=hide (by rw [hw3];exact setRow_heap _ _ _ _ _ _ (heap_alloc_new _ _));have B3:=hide (show Below w.heap.size w w3 by rw [hw3];exact zaz B2.out (below_setRow ((Below.refl _ _).alloc (Nat.le_refl _) _) (Nat.le_refl _) _));have c0:=(cell_of_row w3 w2.heap.size 0 _ _ _ M3.out).trans rfl
    clear hw3 B2)
  |(refine wpList_load_row rfl 216 (.tmp 5) rfl w2.heap.size rfl _ _ _ _ M3.out Tryz.underlying216 rfl (by kernel_rfl) ?_))
 refine (R0.out _ B3.out).mono ?_;rintro e w4 ⟨rfl,h4⟩;have H4:=hide h4;clear h4 R0;go_wp2;go_ret;exact ⟨rfl,H4.out⟩
theorem zuK (h:HasX w b v c d L bs f wr rd st lo bu) (p g a:Int) (KW:∀w,HasPorts w→Calls Tryz.prog 106 #[.int .i64 p] w fun e w'=>e=Ending.returned (.agg #[.int .i64 6,.int .i64 g,.int .i64 a])∧Below w.heap.size w w') (KR:∀w1,Below w.heap.size w w1→Calls Tryz.prog 114 #[.pointer (some ⟨b,0,none⟩),.agg #[.int .i64 6,.int .i64 g,.int .i64 a]] w1 fun e w'=>e=Ending.returned (.int .i64 x)∧R w'):
  Calls Tryz.prog 67 #[.pointer (some ⟨b,0,none⟩),.int .i64 p] w fun e w'=>e=Ending.returned (.int .i64 x)∧R w':=by
 have MI:=hide (zaP h);have HT:=hide h.tabs;have W0:=hide KW;have R0:=hide KR;clear h KW KR;go_enter Tryz.func67,Tryz.ntmps67
 go_wp2_with (first
  |(go_at_call 63;refine MI.out.mono ?_;rintro e w1 ⟨rfl,b1⟩;have B1:=hide b1;have W1:=hide (W0.out w1 (HT.out.next b1).2.1);clear b1 MI W0)
  |(go_at_call 106;refine W1.out.mono ?_;rintro e w2 ⟨rfl,b2⟩;have B2:=hide (zaz B1.out b2);clear b2 W1 B1)
  |(refine wpList_store_row rfl 216 (.tmp 5) (.tmp 10) rfl w2.heap.size _ rfl rfl 216 _ (heap_alloc_new _ _) (by kernel_rfl) rfl (by kernel_rfl) ?_
    refine zaj fun w3 hw3=>?_
    have M3:Hid (w3.heap[w2.heap.size]? = some (.cells #[.int .i64 6,.int .i64 g,.int .i64 a] 216 (0,0))):=hide (by rw [hw3];exact setRow_heap _ _ _ _ _ _ (heap_alloc_new _ _));have B3:=hide (show Below w.heap.size w w3 by rw [hw3];exact zaz B2.out (below_setRow ((Below.refl _ _).alloc (Nat.le_refl _) _) (Nat.le_refl _) _));have c0:=(cell_of_row w3 w2.heap.size 0 _ _ _ M3.out).trans rfl
    clear hw3 B2)
  |(refine wpList_load_row rfl 216 (.tmp 5) rfl w2.heap.size rfl _ _ _ _ M3.out Tryz.underlying216 rfl (by kernel_rfl) ?_))
 refine (R0.out _ B3.out).mono ?_;rintro e w4 ⟨rfl,h4⟩;have H4:=hide h4;clear h4 R0;go_wp2;go_ret;exact ⟨rfl,H4.out⟩
theorem znn (h:HasX w b v c d L bs f wr rd st lo bu) (p g a:Int) (KW:∀w,HasPorts w→Calls Tryz.prog 106 #[.int .i64 p] w fun e w'=>e=Ending.returned (.agg #[.int .i64 7,.int .i64 g,.int .i64 a])∧Below w.heap.size w w') (KR:∀w1,Below w.heap.size w w1→Calls Tryz.prog 115 #[.pointer (some ⟨b,0,none⟩),.agg #[.int .i64 7,.int .i64 g,.int .i64 a]] w1 fun e w'=>e=Ending.returned (.int .i64 x)∧R w'):
  Calls Tryz.prog 67 #[.pointer (some ⟨b,0,none⟩),.int .i64 p] w fun e w'=>e=Ending.returned (.int .i64 x)∧R w':=by
 have MI:=hide (zaP h);have HT:=hide h.tabs;have W0:=hide KW;have R0:=hide KR;clear h KW KR;go_enter Tryz.func67,Tryz.ntmps67
 go_wp2_with (first
  |(go_at_call 63;refine MI.out.mono ?_;rintro e w1 ⟨rfl,b1⟩;have B1:=hide b1;have W1:=hide (W0.out w1 (HT.out.next b1).2.1);clear b1 MI W0)
  |(go_at_call 106;refine W1.out.mono ?_;rintro e w2 ⟨rfl,b2⟩;have B2:=hide (zaz B1.out b2);clear b2 W1 B1)
  |(refine wpList_store_row rfl 216 (.tmp 5) (.tmp 10) rfl w2.heap.size _ rfl rfl 216 _ (heap_alloc_new _ _) (by kernel_rfl) rfl (by kernel_rfl) ?_
    refine zaj fun w3 hw3=>?_
    have M3:Hid (w3.heap[w2.heap.size]? = some (.cells #[.int .i64 7,.int .i64 g,.int .i64 a] 216 (0,0))):=hide (by rw [hw3];exact setRow_heap _ _ _ _ _ _ (heap_alloc_new _ _));have B3:=hide (show Below w.heap.size w w3 by rw [hw3];exact zaz B2.out (below_setRow ((Below.refl _ _).alloc (Nat.le_refl _) _) (Nat.le_refl _) _));have c0:=(cell_of_row w3 w2.heap.size 0 _ _ _ M3.out).trans rfl
    clear hw3 B2)
  |(refine wpList_load_row rfl 216 (.tmp 5) rfl w2.heap.size rfl _ _ _ _ M3.out Tryz.underlying216 rfl (by kernel_rfl) ?_))
 refine (R0.out _ B3.out).mono ?_;rintro e w4 ⟨rfl,h4⟩;have H4:=hide h4;clear h4 R0;go_wp2;go_ret;exact ⟨rfl,H4.out⟩
theorem zrj (h:HasX w b v c d L bs f wr rd st lo bu) (p g a:Int) (KW:∀w,HasPorts w→Calls Tryz.prog 106 #[.int .i64 p] w fun e w'=>e=Ending.returned (.agg #[.int .i64 8,.int .i64 g,.int .i64 a])∧Below w.heap.size w w') (KR:∀w1,Below w.heap.size w w1→Calls Tryz.prog 107 #[.pointer (some ⟨b,0,none⟩),.agg #[.int .i64 8,.int .i64 g,.int .i64 a]] w1 fun e w'=>e=Ending.returned (.int .i64 x)∧R w'):
  Calls Tryz.prog 67 #[.pointer (some ⟨b,0,none⟩),.int .i64 p] w fun e w'=>e=Ending.returned (.int .i64 x)∧R w':=by
 have MI:=hide (zaP h);have HT:=hide h.tabs;have W0:=hide KW;have R0:=hide KR;clear h KW KR;go_enter Tryz.func67,Tryz.ntmps67
 go_wp2_with (first
  |(go_at_call 63;refine MI.out.mono ?_;rintro e w1 ⟨rfl,b1⟩;have B1:=hide b1;have W1:=hide (W0.out w1 (HT.out.next b1).2.1);clear b1 MI W0)
  |(go_at_call 106;refine W1.out.mono ?_;rintro e w2 ⟨rfl,b2⟩;have B2:=hide (zaz B1.out b2);clear b2 W1 B1)
  |(refine wpList_store_row rfl 216 (.tmp 5) (.tmp 10) rfl w2.heap.size _ rfl rfl 216 _ (heap_alloc_new _ _) (by kernel_rfl) rfl (by kernel_rfl) ?_
    refine zaj fun w3 hw3=>?_
    have M3:Hid (w3.heap[w2.heap.size]? = some (.cells #[.int .i64 8,.int .i64 g,.int .i64 a] 216 (0,0))):=hide (by rw [hw3];exact setRow_heap _ _ _ _ _ _ (heap_alloc_new _ _));have B3:=hide (show Below w.heap.size w w3 by rw [hw3];exact zaz B2.out (below_setRow ((Below.refl _ _).alloc (Nat.le_refl _) _) (Nat.le_refl _) _));have c0:=(cell_of_row w3 w2.heap.size 0 _ _ _ M3.out).trans rfl
    clear hw3 B2)
  |(refine wpList_load_row rfl 216 (.tmp 5) rfl w2.heap.size rfl _ _ _ _ M3.out Tryz.underlying216 rfl (by kernel_rfl) ?_))
 refine (R0.out _ B3.out).mono ?_;rintro e w4 ⟨rfl,h4⟩;have H4:=hide h4;clear h4 R0;go_wp2;go_ret;exact ⟨rfl,H4.out⟩
theorem zoQ (h:HasX w b v c d L bs f wr rd st lo bu) (p n g a:Int) (KW:∀w,HasPorts w→Calls Tryz.prog 106 #[.int .i64 p] w fun e w'=>e=Ending.returned (.agg #[.int .i64 8,.int .i64 g,.int .i64 a])∧Below w.heap.size w w') (y:Int) (hy:n%256=y):Calls Tryz.prog 160 #[.pointer (some ⟨b,0,none⟩),.int .i64 p,.int .i64 n] w fun e w'=>e=Ending.returned (.tuple #[])∧HasX w' b v c d L bs f wr rd st lo bu∧OnlyE (EX b v) w w':=by
 have MI:=hide (zaP h);have HX:=hide h;have W0:=hide KW;have Y0:=hide (fun w=>zam n w);rw [hy] at Y0;have D0:=hide (fun w=>zcU 8 w);rw [show decide (4≤(8:Int)∧(8:Int)≤7)=false by decide] at D0;clear h KW hy;go_enter Tryz.func160,Tryz.ntmps160
 go_upto_region 22 with (first
  |(go_at_call 63;refine MI.out.mono ?_;rintro e w1 ⟨rfl,b1⟩;have B1:=hide b1;have W1:=hide (W0.out w1 (HX.out.next b1).tabs.2.1);clear b1 MI W0)
  |(go_at_call 69;refine (Y0.out _).mono ?_;rintro e w' ⟨rfl,hw⟩;subst w')
  |(go_at_call 106;refine W1.out.mono ?_;rintro e w2 ⟨rfl,b2⟩;have B2:=hide (zaz B1.out b2);clear b2 W1 B1)
  |(refine wpList_store_row rfl 216 (.tmp 6) (.tmp 12) rfl w2.heap.size _ rfl rfl 216 _ (heap_alloc_new _ _) (by kernel_rfl) rfl (by kernel_rfl) ?_
    refine zaj fun w3 hw3=>?_
    have M3:Hid (w3.heap[w2.heap.size]? = some (.cells #[.int .i64 8,.int .i64 g,.int .i64 a] 216 (0,0))):=hide (by rw [hw3];exact setRow_heap _ _ _ _ _ _ (heap_alloc_new _ _));have B3:=hide (show Below w.heap.size w w3 by rw [hw3];exact zaz B2.out (below_setRow ((Below.refl _ _).alloc (Nat.le_refl _) _) (Nat.le_refl _) _));have X3:=hide (HX.out.next B3.out);have c0:=(cell_of_row w3 w2.heap.size 0 _ _ _ M3.out).trans rfl;have c2:=(cell_of_row w3 w2.heap.size 2 _ _ _ M3.out).trans rfl;have NZ:=hide (show w2.heap.size≠b∧w2.heap.size≠v from ⟨Nat.ne_of_gt (Nat.lt_of_lt_of_le HX.out.1.lt B2.out.size),Nat.ne_of_gt (Nat.lt_of_lt_of_le HX.out.2.1.lt B2.out.size)⟩)
    clear hw3 B2))
 generalize w2.heap.size=z at *;go_wp2_with (first|(go_at_call 214;refine (D0.out _).mono ?_;rintro e w' ⟨rfl,hw⟩;subst w'));go_end0;exact ⟨rfl,X3.out,zay B3.out⟩
theorem zrk (h:HasX w b v c d L bs f wr rd st lo bu) (p n g a:Int) (KW:∀w,HasPorts w→Calls Tryz.prog 106 #[.int .i64 p] w fun e w'=>e=Ending.returned (.agg #[.int .i64 1,.int .i64 g,.int .i64 a])∧Below w.heap.size w w') (y:Int) (hy:n%256=y) (a0:0≤a) (a1:a<8192) {m:Nat→Value} (h8:L[8]? = some (8192,m)):Calls Tryz.prog 160 #[.pointer (some ⟨b,0,none⟩),.int .i64 p,.int .i64 n] w fun e w'=>e=Ending.returned (.tuple #[])∧HasX w' b v c d (L.set 8 (8192,updC m a.toNat (.int .u8 y))) bs f wr rd st lo bu∧OnlyE (EX b v) w w':=by
 have y0:0≤y∧y<256:=by omega
 have E8:=hide h8;have hj:=hide (show a.toNat<8192 by omega);clear h8;have MI:=hide (zaP h);have HX:=hide h;have W0:=hide KW;have Y0:=hide (fun w=>zam n w);rw [hy] at Y0;have D0:=hide (fun w=>zcU 1 w);rw [show decide (4≤(1:Int)∧(1:Int)≤7)=false by decide] at D0;clear h KW hy;go_enter Tryz.func160,Tryz.ntmps160
 go_upto_region 7 with (first
  |(go_at_call 63;refine MI.out.mono ?_;rintro e w1 ⟨rfl,b1⟩;have B1:=hide b1;have W1:=hide (W0.out w1 (HX.out.next b1).tabs.2.1);clear b1 MI W0)
  |(go_at_call 69;refine (Y0.out _).mono ?_;rintro e w' ⟨rfl,hw⟩;subst w')
  |(go_at_call 106;refine W1.out.mono ?_;rintro e w2 ⟨rfl,b2⟩;have B2:=hide (zaz B1.out b2);clear b2 W1 B1)
  |(refine wpList_store_row rfl 216 (.tmp 6) (.tmp 12) rfl w2.heap.size _ rfl rfl 216 _ (heap_alloc_new _ _) (by kernel_rfl) rfl (by kernel_rfl) ?_
    refine zaj fun w3 hw3=>?_
    have M3:Hid (w3.heap[w2.heap.size]? = some (.cells #[.int .i64 1,.int .i64 g,.int .i64 a] 216 (0,0))):=hide (by rw [hw3];exact setRow_heap _ _ _ _ _ _ (heap_alloc_new _ _));have B3:=hide (show Below w.heap.size w w3 by rw [hw3];exact zaz B2.out (below_setRow ((Below.refl _ _).alloc (Nat.le_refl _) _) (Nat.le_refl _) _));have X3:=hide (HX.out.next B3.out);have c0:=(cell_of_row w3 w2.heap.size 0 _ _ _ M3.out).trans rfl;have c2:=(cell_of_row w3 w2.heap.size 2 _ _ _ M3.out).trans rfl;have NZ:=hide (show w2.heap.size≠b∧w2.heap.size≠v from ⟨Nat.ne_of_gt (Nat.lt_of_lt_of_le HX.out.1.lt B2.out.size),Nat.ne_of_gt (Nat.lt_of_lt_of_le HX.out.2.1.lt B2.out.size)⟩)
    clear hw3 B2))
 generalize w2.heap.size=z at *;have LZ:=lt_of_block M3.out;have i2:=zah c2 LZ;have i8:=zah (X3.out.1.get 8 E8.out a.toNat hj.out (a:=283+a.toNat) (by rw [X3.out.isB.off 8 (a:=283) rfl]) (by have:=hj.out;omega)) X3.out.1.lt;have eu:IntKind.u8.wrap y=y:=by unfold IntKind.wrap;simp [IntKind.bits,IntKind.signed];omega
 haveI:=zax w3;refine zaq _ _ (show _=[_,_,_,_,_,_,_,_]++[_] from rfl) (by kernel_rfl) (by kernel_rfl) (by kernel_rfl) ?_
 repeat (go_big_quiet_step (fail))
 refine wpQuiet_nil ?_;rintro _ ⟨wk,rfl⟩;have X4:=hide (X3.out.next wk.below);have c8:=i8 wk;have z8:=X4.out.1.frozen (283+a.toNat);have M4:=hide ((wk.below.block z LZ).trans M3.out);have H5:=hide (X4.out.1.put 8 E8.out a.toNat hj.out (a:=283+a.toNat) (by rw [X4.out.isB.off 8 (a:=283) rfl]) (.int .u8 y));have O4:=hide (zay (b:=b) (v:=v) (zaz B3.out wk.below));generalize wk.val=w4 at *;clear i2 i8 c0 c2 M3 X3 B3;go_upto_region 22 with fail;refine under_name fun w5 hw5=>?_
 have B5:But b w4 w5:=by rw [hw5];exact (But.refl b w4).set _ _
 have X5:=hide (X4.out.lay B5 8 E8.out (by rw [hw5];exact H5.out) (by decide) (by decide));have O5:=hide (O4.out.trans (zbr B5));have M5:=B5.obj M4.out NZ.out.1;have c0:=(cell_of_row w5 z 0 _ _ _ M5).trans rfl;clear hw5 B5 M5 M4 H5 X4 O4;go_wp2_with (first|(go_at_call 214;refine (D0.out _).mono ?_;rintro e w' ⟨rfl,hw⟩;subst w'));go_end0;exact ⟨rfl,X5.out,O5.out⟩
theorem zrl (h:HasX w b v c d L bs f wr rd st lo bu) (p n g a:Int) (KW:∀w,HasPorts w→Calls Tryz.prog 106 #[.int .i64 p] w fun e w'=>e=Ending.returned (.agg #[.int .i64 0,.int .i64 g,.int .i64 a])∧Below w.heap.size w w') (y:Int) (hy:n%256=y) {lt:Int} (h7:L[7]? = some (1,fun _=>Value.int .i64 lt)) (hx:zgD ((bs.length/8192:Nat):Int) lt a=x):Calls Tryz.prog 160 #[.pointer (some ⟨b,0,none⟩),.int .i64 p,.int .i64 n] w fun e w'=>e=Ending.returned (.tuple #[])∧HasX w' b v c d (L.set 7 (1,fun _=>Value.int .i64 x)) bs f wr rd st lo bu∧OnlyE (EX b v) w w':=by
 have E7:=hide h7;have EX7:=hide hx;clear h7 hx;have MI:=hide (zaP h);have HX:=hide h;have W0:=hide KW;have Y0:=hide (fun w=>zam n w);rw [hy] at Y0;have D0:=hide (fun w=>zcU 0 w);rw [show decide (4≤(0:Int)∧(0:Int)≤7)=false by decide] at D0;clear h KW hy;go_enter Tryz.func160,Tryz.ntmps160
 go_upto_region 5 with (first
  |(go_at_call 63;refine MI.out.mono ?_;rintro e w1 ⟨rfl,b1⟩;have B1:=hide b1;have W1:=hide (W0.out w1 (HX.out.next b1).tabs.2.1);clear b1 MI W0)
  |(go_at_call 69;refine (Y0.out _).mono ?_;rintro e w' ⟨rfl,hw⟩;subst w')
  |(go_at_call 106;refine W1.out.mono ?_;rintro e w2 ⟨rfl,b2⟩;have B2:=hide (zaz B1.out b2);clear b2 W1 B1)
  |(refine wpList_store_row rfl 216 (.tmp 6) (.tmp 12) rfl w2.heap.size _ rfl rfl 216 _ (heap_alloc_new _ _) (by kernel_rfl) rfl (by kernel_rfl) ?_
    refine zaj fun w3 hw3=>?_
    have M3:Hid (w3.heap[w2.heap.size]? = some (.cells #[.int .i64 0,.int .i64 g,.int .i64 a] 216 (0,0))):=hide (by rw [hw3];exact setRow_heap _ _ _ _ _ _ (heap_alloc_new _ _));have B3:=hide (show Below w.heap.size w w3 by rw [hw3];exact zaz B2.out (below_setRow ((Below.refl _ _).alloc (Nat.le_refl _) _) (Nat.le_refl _) _));have X3:=hide (HX.out.next B3.out);have c0:=(cell_of_row w3 w2.heap.size 0 _ _ _ M3.out).trans rfl;have c2:=(cell_of_row w3 w2.heap.size 2 _ _ _ M3.out).trans rfl;have NZ:=hide (show w2.heap.size≠b∧w2.heap.size≠v from ⟨Nat.ne_of_gt (Nat.lt_of_lt_of_le HX.out.1.lt B2.out.size),Nat.ne_of_gt (Nat.lt_of_lt_of_le HX.out.2.1.lt B2.out.size)⟩)
    clear hw3 B2))
 generalize w2.heap.size=z at *;have LZ:=lt_of_block M3.out;have hn:=X3.out.2.2.2.2.2.2.2.2.1.2;have i2:=zah c2 LZ;have i7:=zah (X3.out.1.get1 7 E7.out (a:=282) (X3.out.isB.off 7 rfl) (by decide)) X3.out.1.lt;have i6:=zah (X3.out.1.get1 6 X3.out.2.2.2.2.2.2.1 (a:=281) (X3.out.isB.off 6 rfl) (by decide)) X3.out.1.lt;have KP:=hide (fun x:Kept w3=>zeT ⟨c,0,none⟩ (some ⟨d,0,none⟩) bs.length bs.length x.val (by omega) (X3.out.next x.below).2.2.1.1);have KL:=hide (fun x:Kept w3=>zre ((bs.length/8192:Nat):Int) lt a x.val (X3.out.next x.below).2.2.2.1.1);rw [EX7.out] at KL;clear EX7;generalize ((bs.length/8192:Nat):Int)=N at *;haveI:=zax w3;refine zaq _ _ (show _=[_,_,_,_,_,_,_,_,_,_,_,_,_,_,_]++[_] from rfl) (by kernel_rfl) (by kernel_rfl) (by kernel_rfl) ?_
 repeat (go_big_quiet_step ((first
  |(go_at_call 49;exact zaF (KP.out _))
  |(go_at_call 207;exact zaL (KL.out _)))))
 refine wpQuiet_nil ?_;rintro _ ⟨wk,rfl⟩;have X4:=hide (X3.out.next wk.below);have c7:=i7 wk;have z7:=X4.out.1.frozen 282;have M4:=hide ((wk.below.block z LZ).trans M3.out);have H5:=hide (X4.out.1.put1 7 E7.out (a:=282) (X4.out.isB.off 7 rfl) (.int .i64 x));have O4:=hide (zay (b:=b) (v:=v) (zaz B3.out wk.below));generalize wk.val=w4 at *;clear i2 i7 i6 c0 c2 M3 X3 B3 KP KL;go_upto_region 22 with fail;refine under_name fun w5 hw5=>?_
 have B5:But b w4 w5:=by rw [hw5];exact (But.refl b w4).set _ _
 have X5:=hide (X4.out.lay B5 7 E7.out (by rw [hw5];exact H5.out) (by decide) (by decide));have O5:=hide (O4.out.trans (zbr B5));have M5:=B5.obj M4.out NZ.out.1;have c0:=(cell_of_row w5 z 0 _ _ _ M5).trans rfl;clear hw5 B5 M5 M4 H5 X4 O4;go_wp2_with (first|(go_at_call 214;refine (D0.out _).mono ?_;rintro e w' ⟨rfl,hw⟩;subst w'));go_end0;exact ⟨rfl,X5.out,O5.out⟩
theorem zrm (h:HasX w b v c d L bs f wr rd st lo bu) (p n g a:Int) (KW:∀w,HasPorts w→Calls Tryz.prog 106 #[.int .i64 p] w fun e w'=>e=Ending.returned (.agg #[.int .i64 2,.int .i64 g,.int .i64 a])∧Below w.heap.size w w') (y:Int) (hy:n%256=y) (KD:∀w,HasX w b v c d L bs f wr rd st lo bu→Calls Tryz.prog 208 #[.pointer (some ⟨b,0,none⟩),.int .i64 a,.int .i64 y] w fun e w'=>e=Ending.returned (.tuple #[])∧R w'∧OnlyE (EX b v) w w'):
  Calls Tryz.prog 160 #[.pointer (some ⟨b,0,none⟩),.int .i64 p,.int .i64 n] w fun e w'=>e=Ending.returned (.tuple #[])∧R w'∧OnlyE (EX b v) w w':=by
 have K0:=hide KD;clear KD;have MI:=hide (zaP h);have HX:=hide h;have W0:=hide KW;have Y0:=hide (fun w=>zam n w);rw [hy] at Y0;have D0:=hide (fun w=>zcU 2 w);rw [show decide (4≤(2:Int)∧(2:Int)≤7)=false by decide] at D0;clear h KW hy;go_enter Tryz.func160,Tryz.ntmps160
 go_upto_region 9 with (first
  |(go_at_call 63;refine MI.out.mono ?_;rintro e w1 ⟨rfl,b1⟩;have B1:=hide b1;have W1:=hide (W0.out w1 (HX.out.next b1).tabs.2.1);clear b1 MI W0)
  |(go_at_call 69;refine (Y0.out _).mono ?_;rintro e w' ⟨rfl,hw⟩;subst w')
  |(go_at_call 106;refine W1.out.mono ?_;rintro e w2 ⟨rfl,b2⟩;have B2:=hide (zaz B1.out b2);clear b2 W1 B1)
  |(refine wpList_store_row rfl 216 (.tmp 6) (.tmp 12) rfl w2.heap.size _ rfl rfl 216 _ (heap_alloc_new _ _) (by kernel_rfl) rfl (by kernel_rfl) ?_
    refine zaj fun w3 hw3=>?_
    have M3:Hid (w3.heap[w2.heap.size]? = some (.cells #[.int .i64 2,.int .i64 g,.int .i64 a] 216 (0,0))):=hide (by rw [hw3];exact setRow_heap _ _ _ _ _ _ (heap_alloc_new _ _));have B3:=hide (show Below w.heap.size w w3 by rw [hw3];exact zaz B2.out (below_setRow ((Below.refl _ _).alloc (Nat.le_refl _) _) (Nat.le_refl _) _));have X3:=hide (HX.out.next B3.out);have c0:=(cell_of_row w3 w2.heap.size 0 _ _ _ M3.out).trans rfl;have c2:=(cell_of_row w3 w2.heap.size 2 _ _ _ M3.out).trans rfl;have NZ:=hide (show w2.heap.size≠b∧w2.heap.size≠v from ⟨Nat.ne_of_gt (Nat.lt_of_lt_of_le HX.out.1.lt B2.out.size),Nat.ne_of_gt (Nat.lt_of_lt_of_le HX.out.2.1.lt B2.out.size)⟩)
    clear hw3 B2))
 generalize w2.heap.size=z at *;go_wp2_with fail;refine (K0.out _ X3.out).mono ?_;rintro e w5 ⟨rfl,r5,o5⟩;have R5:=hide r5;have O5:=hide ((zay (b:=b) (v:=v) B3.out).trans o5);have M5:=o5.obj M3.out (fun e=>by rcases e with e|e;exact NZ.out.1 e;exact NZ.out.2 e);have c0:=(cell_of_row w5 z 0 _ _ _ M5).trans rfl;clear r5 o5 M5 M3 X3 B3 K0 c2;go_wp2_with (first|(go_at_call 214;refine (D0.out _).mono ?_;rintro e w' ⟨rfl,hw⟩;subst w'));go_end0;exact ⟨rfl,R5.out,O5.out⟩
theorem zrn (h:HasX w b v c d L bs f wr rd st lo bu) (p n g a:Int) (KW:∀w,HasPorts w→Calls Tryz.prog 106 #[.int .i64 p] w fun e w'=>e=Ending.returned (.agg #[.int .i64 3,.int .i64 g,.int .i64 a])∧Below w.heap.size w w') (y:Int) (hy:n%256=y) (hs:L[10]? = some (514,s)) (KP:∀w,Calls Tryz.prog 209 #[.agg (rowF s 514),.int .i64 a,.int .i64 y] w fun e w'=>e=Ending.returned (.agg (rowF q 514))∧Below w.heap.size w w') (hq:∀j,j<514→(q j).oneCell'=true):Calls Tryz.prog 160 #[.pointer (some ⟨b,0,none⟩),.int .i64 p,.int .i64 n] w fun e w'=>e=Ending.returned (.tuple #[])∧HasX w' b v c d (L.set 10 (514,q)) bs f wr rd st lo bu∧OnlyE (EX b v) w w':=by
 have IS:Hid ((Tryz.prog.info? 43).map (·.size)=some (rowF s 514).size):=hide (by rw [zai];kernel_rfl);have GQ:=hide hq;have P0:=hide KP;have ES:=hide hs;clear hq KP hs;have MI:=hide (zaP h);have HX:=hide h;have W0:=hide KW;have Y0:=hide (fun w=>zam n w);rw [hy] at Y0;have D0:=hide (fun w=>zcU 3 w);rw [show decide (4≤(3:Int)∧(3:Int)≤7)=false by decide] at D0;clear h KW hy;go_enter Tryz.func160,Tryz.ntmps160
 go_upto_region 11 with (first
  |(go_at_call 63;refine MI.out.mono ?_;rintro e w1 ⟨rfl,b1⟩;have B1:=hide b1;have W1:=hide (W0.out w1 (HX.out.next b1).tabs.2.1);clear b1 MI W0)
  |(go_at_call 69;refine (Y0.out _).mono ?_;rintro e w' ⟨rfl,hw⟩;subst w')
  |(go_at_call 106;refine W1.out.mono ?_;rintro e w2 ⟨rfl,b2⟩;have B2:=hide (zaz B1.out b2);clear b2 W1 B1)
  |(refine wpList_store_row rfl 216 (.tmp 6) (.tmp 12) rfl w2.heap.size _ rfl rfl 216 _ (heap_alloc_new _ _) (by kernel_rfl) rfl (by kernel_rfl) ?_
    refine zaj fun w3 hw3=>?_
    have M3:Hid (w3.heap[w2.heap.size]? = some (.cells #[.int .i64 3,.int .i64 g,.int .i64 a] 216 (0,0))):=hide (by rw [hw3];exact setRow_heap _ _ _ _ _ _ (heap_alloc_new _ _));have B3:=hide (show Below w.heap.size w w3 by rw [hw3];exact zaz B2.out (below_setRow ((Below.refl _ _).alloc (Nat.le_refl _) _) (Nat.le_refl _) _));have X3:=hide (HX.out.next B3.out);have c0:=(cell_of_row w3 w2.heap.size 0 _ _ _ M3.out).trans rfl;have c2:=(cell_of_row w3 w2.heap.size 2 _ _ _ M3.out).trans rfl;have NZ:=hide (show w2.heap.size≠b∧w2.heap.size≠v from ⟨Nat.ne_of_gt (Nat.lt_of_lt_of_le HX.out.1.lt B2.out.size),Nat.ne_of_gt (Nat.lt_of_lt_of_le HX.out.2.1.lt B2.out.size)⟩)
    clear hw3 B2))
 generalize w2.heap.size=z at *;have M4:=M3;have X4:=X3;have O4:=hide (zay (b:=b) (v:=v) B3.out);clear M3 X3 B3 c0 c2;generalize w3=w4 at *;have LZ:=lt_of_block M4.out;have c2:=(cell_of_row w4 z 2 _ _ _ M4.out).trans rfl;have i2:=zah c2 LZ;have RS:=hide (X4.out.1.range 8483 514 (by decide));rw [zbh (X4.out.1.seg 10 ES.out (a:=8483) (X4.out.isB.off 10 rfl))] at RS;have HL:=hide X4.out.1.lt;generalize rowF s 514=A at *;haveI:=zax w4;refine zaq _ _ (show _=[_,_,_,_,_,_,_,_,_,_,_]++[_] from rfl) (by kernel_rfl) (by kernel_rfl) (by kernel_rfl) ?_
 repeat (first
  |(refine wpQuiet_mid rfl 43 (.tmp 54) rfl b 8483 rfl A _ (fun w' ⟨x,hx⟩=>by rw [hx];intro j y hy;rw [x.cell b _ HL.out];exact RS.out j y hy) Tryz.underlying43 rfl IS.out ?_;simp only [Act.put,List.setIfInBounds_toArray,List.set_cons_succ,List.set_cons_zero])
  |go_big_quiet_step ((go_at_call 209;exact zaL (P0.out _))))
 refine wpQuiet_nil ?_;rintro _ ⟨wk,rfl⟩;have H4:=hide (X4.out.1.next wk.below);have X5:=hide (X4.out.next wk.below);have O5:=hide (O4.out.trans (zay wk.below));have N5:=hide ((wk.below.block z LZ).trans M4.out);generalize wk.val=w5 at *;refine zau rfl 43 (.tmp 61) (.tmp 59) rfl b 8483 514 q rfl rfl H4.out (by decide) (by kernel_rfl) GQ.out ?_;refine zaj fun w6 hw6=>?_
 have B6:But b w5 w6:=by rw [hw6];exact But.cells _ _ _ (But.refl b w5)
 have X6:=hide (X5.out.lay B6 10 ES.out (by rw [hw6];exact H4.out.lay 10 ES.out q (X5.out.isB.off 10 rfl)) (by decide) (by decide));have O6:=hide (O5.out.trans (zbr B6));have M6:=B6.obj N5.out NZ.out.1;have c0:=(cell_of_row w6 z 0 _ _ _ M6).trans rfl;clear hw6 B6 M6 N5 H4 X5 O5 i2 c2 M4 X4 O4 RS HL P0;simp only [Act.put];go_wp2_with (first|(go_at_call 214;refine (D0.out _).mono ?_;rintro e w' ⟨rfl,hw⟩;subst w'));go_end0;exact ⟨rfl,X6.out,O6.out⟩
theorem zro (h:HasX w b v c d L bs f wr rd st lo bu) (p n g a:Int) (KW:∀w,HasPorts w→Calls Tryz.prog 106 #[.int .i64 p] w fun e w'=>e=Ending.returned (.agg #[.int .i64 4,.int .i64 g,.int .i64 a])∧Below w.heap.size w w') (y:Int) (hy:n%256=y) (hs:L[11]? = some (244,s)) (KP:∀w,Calls Tryz.prog 210 #[.agg (rowF s 244),.int .i64 a,.int .i64 y] w fun e w'=>e=Ending.returned (.agg (rowF q 244))∧Below w.heap.size w w') (hq:∀j,j<244→(q j).oneCell'=true)  (h16:L[16]? = some (1,fun _=>Value.int .i64 hd)):Calls Tryz.prog 160 #[.pointer (some ⟨b,0,none⟩),.int .i64 p,.int .i64 n] w fun e w'=>e=Ending.returned (.tuple #[])∧HasX w' b v c d ((L.set 11 (244,q)).set 16 (1,fun _=>Value.int .i64 y)) bs f wr rd st lo bu∧OnlyE (EX b v) w w':=by
 have E16:=hide h16;clear h16;have IS:Hid ((Tryz.prog.info? 49).map (·.size)=some (rowF s 244).size):=hide (by rw [zai];kernel_rfl);have GQ:=hide hq;have P0:=hide KP;have ES:=hide hs;clear hq KP hs;have MI:=hide (zaP h);have HX:=hide h;have W0:=hide KW;have Y0:=hide (fun w=>zam n w);rw [hy] at Y0;have D0:=hide (fun w=>zcU 4 w);rw [show decide (4≤(4:Int)∧(4:Int)≤7)=true by decide] at D0;clear h KW hy;go_enter Tryz.func160,Tryz.ntmps160
 go_upto_region 13 with (first
  |(go_at_call 63;refine MI.out.mono ?_;rintro e w1 ⟨rfl,b1⟩;have B1:=hide b1;have W1:=hide (W0.out w1 (HX.out.next b1).tabs.2.1);clear b1 MI W0)
  |(go_at_call 69;refine (Y0.out _).mono ?_;rintro e w' ⟨rfl,hw⟩;subst w')
  |(go_at_call 106;refine W1.out.mono ?_;rintro e w2 ⟨rfl,b2⟩;have B2:=hide (zaz B1.out b2);clear b2 W1 B1)
  |(refine wpList_store_row rfl 216 (.tmp 6) (.tmp 12) rfl w2.heap.size _ rfl rfl 216 _ (heap_alloc_new _ _) (by kernel_rfl) rfl (by kernel_rfl) ?_
    refine zaj fun w3 hw3=>?_
    have M3:Hid (w3.heap[w2.heap.size]? = some (.cells #[.int .i64 4,.int .i64 g,.int .i64 a] 216 (0,0))):=hide (by rw [hw3];exact setRow_heap _ _ _ _ _ _ (heap_alloc_new _ _));have B3:=hide (show Below w.heap.size w w3 by rw [hw3];exact zaz B2.out (below_setRow ((Below.refl _ _).alloc (Nat.le_refl _) _) (Nat.le_refl _) _));have X3:=hide (HX.out.next B3.out);have c0:=(cell_of_row w3 w2.heap.size 0 _ _ _ M3.out).trans rfl;have c2:=(cell_of_row w3 w2.heap.size 2 _ _ _ M3.out).trans rfl;have NZ:=hide (show w2.heap.size≠b∧w2.heap.size≠v from ⟨Nat.ne_of_gt (Nat.lt_of_lt_of_le HX.out.1.lt B2.out.size),Nat.ne_of_gt (Nat.lt_of_lt_of_le HX.out.2.1.lt B2.out.size)⟩)
    clear hw3 B2))
 generalize w2.heap.size=z at *;have M4:=M3;have X4:=X3;have O4:=hide (zay (b:=b) (v:=v) B3.out);clear M3 X3 B3 c0 c2;generalize w3=w4 at *;have LZ:=lt_of_block M4.out;have c2:=(cell_of_row w4 z 2 _ _ _ M4.out).trans rfl;have i2:=zah c2 LZ;have RS:=hide (X4.out.1.range 8997 244 (by decide));rw [zbh (X4.out.1.seg 11 ES.out (a:=8997) (X4.out.isB.off 11 rfl))] at RS;have HL:=hide X4.out.1.lt;generalize rowF s 244=A at *;haveI:=zax w4;refine zaq _ _ (show _=[_,_,_,_,_,_,_,_,_,_,_]++[_] from rfl) (by kernel_rfl) (by kernel_rfl) (by kernel_rfl) ?_
 repeat (first
  |(refine wpQuiet_mid rfl 49 (.tmp 67) rfl b 8997 rfl A _ (fun w' ⟨x,hx⟩=>by rw [hx];intro j y hy;rw [x.cell b _ HL.out];exact RS.out j y hy) Tryz.underlying49 rfl IS.out ?_;simp only [Act.put,List.setIfInBounds_toArray,List.set_cons_succ,List.set_cons_zero])
  |go_big_quiet_step ((go_at_call 210;exact zaL (P0.out _))))
 refine wpQuiet_nil ?_;rintro _ ⟨wk,rfl⟩;have H4:=hide (X4.out.1.next wk.below);have X5:=hide (X4.out.next wk.below);have O5:=hide (O4.out.trans (zay wk.below));have N5:=hide ((wk.below.block z LZ).trans M4.out);generalize wk.val=w5 at *;refine zau rfl 49 (.tmp 74) (.tmp 72) rfl b 8997 244 q rfl rfl H4.out (by decide) (by kernel_rfl) GQ.out ?_;refine zaj fun w6 hw6=>?_
 have B6:But b w5 w6:=by rw [hw6];exact But.cells _ _ _ (But.refl b w5)
 have X6:=hide (X5.out.lay B6 11 ES.out (by rw [hw6];exact H4.out.lay 11 ES.out q (X5.out.isB.off 11 rfl)) (by decide) (by decide));have O6:=hide (O5.out.trans (zbr B6));have M6:=B6.obj N5.out NZ.out.1;have c0:=(cell_of_row w6 z 0 _ _ _ M6).trans rfl;clear hw6 B6 M6 N5 H4 X5 O5 i2 c2 M4 X4 O4 RS HL P0;simp only [Act.put];have F16:=hide (zaB (k:=11) E16.out (244,q) (by decide));have c16:=X6.out.1.get1 16 F16.out (a:=9261) (X6.out.isB.off 16 rfl) (by decide);have z16:=X6.out.1.frozen 9261;have H7:=hide (X6.out.1.put1 16 F16.out (a:=9261) (X6.out.isB.off 16 rfl) (.int .i64 y));go_wp2_with (first|(go_at_call 214;refine (D0.out _).mono ?_;rintro e w' ⟨rfl,hw⟩;subst w'));go_end0;have B7:=(But.refl b w6).set 9261 (.int .i64 y);exact ⟨rfl,X6.out.lay B7 16 F16.out H7.out (by decide) (by decide),O6.out.trans (zbr B7)⟩
theorem zmk (h:HasX w b v c d L bs f wr rd st lo bu) (p n g a:Int) (KW:∀w,HasPorts w→Calls Tryz.prog 106 #[.int .i64 p] w fun e w'=>e=Ending.returned (.agg #[.int .i64 5,.int .i64 g,.int .i64 a])∧Below w.heap.size w w') (y:Int) (hy:n%256=y) (KS:∀w,HasX w b v c d L bs f wr rd st lo bu→Calls Tryz.prog 31 #[.pointer (some ⟨b,0,none⟩)] w fun e w'=>e=Ending.returned (.tuple #[])∧HasX w' b v c d L2 bs f wr rd st lo bu∧OnlyE (EX b v) w w')  (hs:L2[12]? = some (4,s)) (KP:∀w,Calls Tryz.prog 211 #[.agg (rowF s 4),.int .i64 a,.int .i64 y] w fun e w'=>e=Ending.returned (.agg (rowF q 4))∧Below w.heap.size w w') (hq:∀j,j<4→(q j).oneCell'=true)  (h16:L2[16]? = some (1,fun _=>Value.int .i64 hd)):Calls Tryz.prog 160 #[.pointer (some ⟨b,0,none⟩),.int .i64 p,.int .i64 n] w fun e w'=>e=Ending.returned (.tuple #[])∧HasX w' b v c d ((L2.set 12 (4,q)).set 16 (1,fun _=>Value.int .i64 y)) bs f wr rd st lo bu∧OnlyE (EX b v) w w':=by
 have E16:=hide h16;have S0:=hide KS;clear h16 KS;have IS:Hid ((Tryz.prog.info? 51).map (·.size)=some (rowF s 4).size):=hide (by rw [zai];kernel_rfl);have GQ:=hide hq;have P0:=hide KP;have ES:=hide hs;clear hq KP hs;have MI:=hide (zaP h);have HX:=hide h;have W0:=hide KW;have Y0:=hide (fun w=>zam n w);rw [hy] at Y0;have D0:=hide (fun w=>zcU 5 w);rw [show decide (4≤(5:Int)∧(5:Int)≤7)=true by decide] at D0;clear h KW hy;go_enter Tryz.func160,Tryz.ntmps160
 go_upto_region 15 with (first
  |(go_at_call 63;refine MI.out.mono ?_;rintro e w1 ⟨rfl,b1⟩;have B1:=hide b1;have W1:=hide (W0.out w1 (HX.out.next b1).tabs.2.1);clear b1 MI W0)
  |(go_at_call 69;refine (Y0.out _).mono ?_;rintro e w' ⟨rfl,hw⟩;subst w')
  |(go_at_call 106;refine W1.out.mono ?_;rintro e w2 ⟨rfl,b2⟩;have B2:=hide (zaz B1.out b2);clear b2 W1 B1)
  |(refine wpList_store_row rfl 216 (.tmp 6) (.tmp 12) rfl w2.heap.size _ rfl rfl 216 _ (heap_alloc_new _ _) (by kernel_rfl) rfl (by kernel_rfl) ?_
    refine zaj fun w3 hw3=>?_
    have M3:Hid (w3.heap[w2.heap.size]? = some (.cells #[.int .i64 5,.int .i64 g,.int .i64 a] 216 (0,0))):=hide (by rw [hw3];exact setRow_heap _ _ _ _ _ _ (heap_alloc_new _ _));have B3:=hide (show Below w.heap.size w w3 by rw [hw3];exact zaz B2.out (below_setRow ((Below.refl _ _).alloc (Nat.le_refl _) _) (Nat.le_refl _) _));have X3:=hide (HX.out.next B3.out);have c0:=(cell_of_row w3 w2.heap.size 0 _ _ _ M3.out).trans rfl;have c2:=(cell_of_row w3 w2.heap.size 2 _ _ _ M3.out).trans rfl;have NZ:=hide (show w2.heap.size≠b∧w2.heap.size≠v from ⟨Nat.ne_of_gt (Nat.lt_of_lt_of_le HX.out.1.lt B2.out.size),Nat.ne_of_gt (Nat.lt_of_lt_of_le HX.out.2.1.lt B2.out.size)⟩)
    clear hw3 B2))
 generalize w2.heap.size=z at *;go_wp2_with fail;refine (S0.out _ X3.out).mono ?_;rintro e w4 ⟨rfl,x4,o4⟩;have X4:=hide x4;have O4:=hide ((zay (b:=b) (v:=v) B3.out).trans o4);have M4:=hide (o4.obj M3.out (fun e=>by rcases e with e|e;exact NZ.out.1 e;exact NZ.out.2 e));clear x4 o4 M3 X3 B3 S0 c2 c0;go_wp2_with fail;have LZ:=lt_of_block M4.out;have c2:=(cell_of_row w4 z 2 _ _ _ M4.out).trans rfl;have i2:=zah c2 LZ;have RS:=hide (X4.out.1.range 9241 4 (by decide));rw [zbh (X4.out.1.seg 12 ES.out (a:=9241) (X4.out.isB.off 12 rfl))] at RS;have HL:=hide X4.out.1.lt;generalize rowF s 4=A at *;haveI:=zax w4;refine zaq _ _ (show _=[_,_,_,_,_,_,_,_,_,_,_]++[_] from rfl) (by kernel_rfl) (by kernel_rfl) (by kernel_rfl) ?_
 repeat (first
  |(refine wpQuiet_mid rfl 51 (.tmp 82) rfl b 9241 rfl A _ (fun w' ⟨x,hx⟩=>by rw [hx];intro j y hy;rw [x.cell b _ HL.out];exact RS.out j y hy) Tryz.underlying51 rfl IS.out ?_;simp only [Act.put,List.setIfInBounds_toArray,List.set_cons_succ,List.set_cons_zero])
  |go_big_quiet_step ((go_at_call 211;exact zaL (P0.out _))))
 refine wpQuiet_nil ?_;rintro _ ⟨wk,rfl⟩;have H4:=hide (X4.out.1.next wk.below);have X5:=hide (X4.out.next wk.below);have O5:=hide (O4.out.trans (zay wk.below));have N5:=hide ((wk.below.block z LZ).trans M4.out);generalize wk.val=w5 at *;refine zau rfl 51 (.tmp 89) (.tmp 87) rfl b 9241 4 q rfl rfl H4.out (by decide) (by kernel_rfl) GQ.out ?_;refine zaj fun w6 hw6=>?_
 have B6:But b w5 w6:=by rw [hw6];exact But.cells _ _ _ (But.refl b w5)
 have X6:=hide (X5.out.lay B6 12 ES.out (by rw [hw6];exact H4.out.lay 12 ES.out q (X5.out.isB.off 12 rfl)) (by decide) (by decide));have O6:=hide (O5.out.trans (zbr B6));have M6:=B6.obj N5.out NZ.out.1;have c0:=(cell_of_row w6 z 0 _ _ _ M6).trans rfl;clear hw6 B6 M6 N5 H4 X5 O5 i2 c2 M4 X4 O4 RS HL P0;simp only [Act.put];have F16:=hide (zaB (k:=12) E16.out (4,q) (by decide));have c16:=X6.out.1.get1 16 F16.out (a:=9261) (X6.out.isB.off 16 rfl) (by decide);have z16:=X6.out.1.frozen 9261;have H7:=hide (X6.out.1.put1 16 F16.out (a:=9261) (X6.out.isB.off 16 rfl) (.int .i64 y));go_wp2_with (first|(go_at_call 214;refine (D0.out _).mono ?_;rintro e w' ⟨rfl,hw⟩;subst w'));go_end0;have B7:=(But.refl b w6).set 9261 (.int .i64 y);exact ⟨rfl,X6.out.lay B7 16 F16.out H7.out (by decide) (by decide),O6.out.trans (zbr B7)⟩
theorem zrp (h:HasX w b v c d L bs f wr rd st lo bu) (p n g a:Int) (KW:∀w,HasPorts w→Calls Tryz.prog 106 #[.int .i64 p] w fun e w'=>e=Ending.returned (.agg #[.int .i64 7,.int .i64 g,.int .i64 a])∧Below w.heap.size w w') (y:Int) (hy:n%256=y) (KS:∀w,HasX w b v c d L bs f wr rd st lo bu→Calls Tryz.prog 31 #[.pointer (some ⟨b,0,none⟩)] w fun e w'=>e=Ending.returned (.tuple #[])∧HasX w' b v c d L2 bs f wr rd st lo bu∧OnlyE (EX b v) w w')  (hs:L2[13]? = some (2,s)) (KP:∀w,Calls Tryz.prog 213 #[.agg (rowF s 2),.int .i64 a,.int .i64 y] w fun e w'=>e=Ending.returned (.agg (rowF q 2))∧Below w.heap.size w w') (hq:∀j,j<2→(q j).oneCell'=true)  (h16:L2[16]? = some (1,fun _=>Value.int .i64 hd)):Calls Tryz.prog 160 #[.pointer (some ⟨b,0,none⟩),.int .i64 p,.int .i64 n] w fun e w'=>e=Ending.returned (.tuple #[])∧HasX w' b v c d ((L2.set 13 (2,q)).set 16 (1,fun _=>Value.int .i64 y)) bs f wr rd st lo bu∧OnlyE (EX b v) w w':=by
 have E16:=hide h16;have S0:=hide KS;clear h16 KS;have IS:Hid ((Tryz.prog.info? 53).map (·.size)=some (rowF s 2).size):=hide (by rw [zai];kernel_rfl);have GQ:=hide hq;have P0:=hide KP;have ES:=hide hs;clear hq KP hs;have MI:=hide (zaP h);have HX:=hide h;have W0:=hide KW;have Y0:=hide (fun w=>zam n w);rw [hy] at Y0;have D0:=hide (fun w=>zcU 7 w);rw [show decide (4≤(7:Int)∧(7:Int)≤7)=true by decide] at D0;clear h KW hy;go_enter Tryz.func160,Tryz.ntmps160
 go_upto_region 20 with (first
  |(go_at_call 63;refine MI.out.mono ?_;rintro e w1 ⟨rfl,b1⟩;have B1:=hide b1;have W1:=hide (W0.out w1 (HX.out.next b1).tabs.2.1);clear b1 MI W0)
  |(go_at_call 69;refine (Y0.out _).mono ?_;rintro e w' ⟨rfl,hw⟩;subst w')
  |(go_at_call 106;refine W1.out.mono ?_;rintro e w2 ⟨rfl,b2⟩;have B2:=hide (zaz B1.out b2);clear b2 W1 B1)
  |(refine wpList_store_row rfl 216 (.tmp 6) (.tmp 12) rfl w2.heap.size _ rfl rfl 216 _ (heap_alloc_new _ _) (by kernel_rfl) rfl (by kernel_rfl) ?_
    refine zaj fun w3 hw3=>?_
    have M3:Hid (w3.heap[w2.heap.size]? = some (.cells #[.int .i64 7,.int .i64 g,.int .i64 a] 216 (0,0))):=hide (by rw [hw3];exact setRow_heap _ _ _ _ _ _ (heap_alloc_new _ _));have B3:=hide (show Below w.heap.size w w3 by rw [hw3];exact zaz B2.out (below_setRow ((Below.refl _ _).alloc (Nat.le_refl _) _) (Nat.le_refl _) _));have X3:=hide (HX.out.next B3.out);have c0:=(cell_of_row w3 w2.heap.size 0 _ _ _ M3.out).trans rfl;have c2:=(cell_of_row w3 w2.heap.size 2 _ _ _ M3.out).trans rfl;have NZ:=hide (show w2.heap.size≠b∧w2.heap.size≠v from ⟨Nat.ne_of_gt (Nat.lt_of_lt_of_le HX.out.1.lt B2.out.size),Nat.ne_of_gt (Nat.lt_of_lt_of_le HX.out.2.1.lt B2.out.size)⟩)
    clear hw3 B2))
 generalize w2.heap.size=z at *;go_wp2_with fail;refine (S0.out _ X3.out).mono ?_;rintro e w4 ⟨rfl,x4,o4⟩;have X4:=hide x4;have O4:=hide ((zay (b:=b) (v:=v) B3.out).trans o4);have M4:=hide (o4.obj M3.out (fun e=>by rcases e with e|e;exact NZ.out.1 e;exact NZ.out.2 e));clear x4 o4 M3 X3 B3 S0 c2 c0;go_wp2_with fail;have LZ:=lt_of_block M4.out;have c2:=(cell_of_row w4 z 2 _ _ _ M4.out).trans rfl;have i2:=zah c2 LZ;have RS:=hide (X4.out.1.range 9245 2 (by decide));rw [zbh (X4.out.1.seg 13 ES.out (a:=9245) (X4.out.isB.off 13 rfl))] at RS;have HL:=hide X4.out.1.lt;generalize rowF s 2=A at *;haveI:=zax w4;refine zaq _ _ (show _=[_,_,_,_,_,_,_,_,_,_,_]++[_] from rfl) (by kernel_rfl) (by kernel_rfl) (by kernel_rfl) ?_
 repeat (first
  |(refine wpQuiet_mid rfl 53 (.tmp 108) rfl b 9245 rfl A _ (fun w' ⟨x,hx⟩=>by rw [hx];intro j y hy;rw [x.cell b _ HL.out];exact RS.out j y hy) Tryz.underlying53 rfl IS.out ?_;simp only [Act.put,List.setIfInBounds_toArray,List.set_cons_succ,List.set_cons_zero])
  |go_big_quiet_step ((go_at_call 213;exact zaL (P0.out _))))
 refine wpQuiet_nil ?_;rintro _ ⟨wk,rfl⟩;have H4:=hide (X4.out.1.next wk.below);have X5:=hide (X4.out.next wk.below);have O5:=hide (O4.out.trans (zay wk.below));have N5:=hide ((wk.below.block z LZ).trans M4.out);generalize wk.val=w5 at *;refine zau rfl 53 (.tmp 115) (.tmp 113) rfl b 9245 2 q rfl rfl H4.out (by decide) (by kernel_rfl) GQ.out ?_;refine zaj fun w6 hw6=>?_
 have B6:But b w5 w6:=by rw [hw6];exact But.cells _ _ _ (But.refl b w5)
 have X6:=hide (X5.out.lay B6 13 ES.out (by rw [hw6];exact H4.out.lay 13 ES.out q (X5.out.isB.off 13 rfl)) (by decide) (by decide));have O6:=hide (O5.out.trans (zbr B6));have M6:=B6.obj N5.out NZ.out.1;have c0:=(cell_of_row w6 z 0 _ _ _ M6).trans rfl;clear hw6 B6 M6 N5 H4 X5 O5 i2 c2 M4 X4 O4 RS HL P0;simp only [Act.put];have F16:=hide (zaB (k:=13) E16.out (2,q) (by decide));have c16:=X6.out.1.get1 16 F16.out (a:=9261) (X6.out.isB.off 16 rfl) (by decide);have z16:=X6.out.1.frozen 9261;have H7:=hide (X6.out.1.put1 16 F16.out (a:=9261) (X6.out.isB.off 16 rfl) (.int .i64 y));go_wp2_with (first|(go_at_call 214;refine (D0.out _).mono ?_;rintro e w' ⟨rfl,hw⟩;subst w'));go_end0;have B7:=(But.refl b w6).set 9261 (.int .i64 y);exact ⟨rfl,X6.out.lay B7 16 F16.out H7.out (by decide) (by decide),O6.out.trans (zbr B7)⟩
theorem zrq (h:HasX w b v c d L bs f wr rd st lo bu) (p n g a:Int) (KW:∀w,HasPorts w→Calls Tryz.prog 106 #[.int .i64 p] w fun e w'=>e=Ending.returned (.agg #[.int .i64 6,.int .i64 g,.int .i64 a])∧Below w.heap.size w w') (y:Int) (hy:n%256=y) (hs:L[14]? = some (4,s)) (KP:∀w,Calls Tryz.prog 212 #[.agg (rowF s 4),.int .i64 y] w fun e w'=>e=Ending.returned (.agg (rowF q 4))∧Below w.heap.size w w') (hq:∀j,j<4→(q j).oneCell'=true)  (h16:L[16]? = some (1,fun _=>Value.int .i64 hd)):Calls Tryz.prog 160 #[.pointer (some ⟨b,0,none⟩),.int .i64 p,.int .i64 n] w fun e w'=>e=Ending.returned (.tuple #[])∧HasX w' b v c d ((L.set 14 (4,q)).set 16 (1,fun _=>Value.int .i64 y)) bs f wr rd st lo bu∧OnlyE (EX b v) w w':=by
 have E16:=hide h16;clear h16;have IS:Hid ((Tryz.prog.info? 55).map (·.size)=some (rowF s 4).size):=hide (by rw [zai];kernel_rfl);have GQ:=hide hq;have P0:=hide KP;have ES:=hide hs;clear hq KP hs;have MI:=hide (zaP h);have HX:=hide h;have W0:=hide KW;have Y0:=hide (fun w=>zam n w);rw [hy] at Y0;have D0:=hide (fun w=>zcU 6 w);rw [show decide (4≤(6:Int)∧(6:Int)≤7)=true by decide] at D0;clear h KW hy;go_enter Tryz.func160,Tryz.ntmps160
 go_upto_region 18 with (first
  |(go_at_call 63;refine MI.out.mono ?_;rintro e w1 ⟨rfl,b1⟩;have B1:=hide b1;have W1:=hide (W0.out w1 (HX.out.next b1).tabs.2.1);clear b1 MI W0)
  |(go_at_call 69;refine (Y0.out _).mono ?_;rintro e w' ⟨rfl,hw⟩;subst w')
  |(go_at_call 106;refine W1.out.mono ?_;rintro e w2 ⟨rfl,b2⟩;have B2:=hide (zaz B1.out b2);clear b2 W1 B1)
  |(refine wpList_store_row rfl 216 (.tmp 6) (.tmp 12) rfl w2.heap.size _ rfl rfl 216 _ (heap_alloc_new _ _) (by kernel_rfl) rfl (by kernel_rfl) ?_
    refine zaj fun w3 hw3=>?_
    have M3:Hid (w3.heap[w2.heap.size]? = some (.cells #[.int .i64 6,.int .i64 g,.int .i64 a] 216 (0,0))):=hide (by rw [hw3];exact setRow_heap _ _ _ _ _ _ (heap_alloc_new _ _));have B3:=hide (show Below w.heap.size w w3 by rw [hw3];exact zaz B2.out (below_setRow ((Below.refl _ _).alloc (Nat.le_refl _) _) (Nat.le_refl _) _));have X3:=hide (HX.out.next B3.out);have c0:=(cell_of_row w3 w2.heap.size 0 _ _ _ M3.out).trans rfl;have c2:=(cell_of_row w3 w2.heap.size 2 _ _ _ M3.out).trans rfl;have NZ:=hide (show w2.heap.size≠b∧w2.heap.size≠v from ⟨Nat.ne_of_gt (Nat.lt_of_lt_of_le HX.out.1.lt B2.out.size),Nat.ne_of_gt (Nat.lt_of_lt_of_le HX.out.2.1.lt B2.out.size)⟩)
    clear hw3 B2))
 generalize w2.heap.size=z at *;have M4:=M3;have X4:=X3;have O4:=hide (zay (b:=b) (v:=v) B3.out);clear M3 X3 B3 c0 c2;generalize w3=w4 at *;have SG:=hide (X4.out.1.seg 14 ES.out (a:=9247) (X4.out.isB.off 14 rfl));have LZ:=hide (lt_of_block M4.out)
 go_wp2_with (first
  |(refine zaw rfl 55 (.tmp 95) rfl b 9247 rfl X4.out.1 4 (by decide) s SG.out _ Tryz.underlying55 rfl (by kernel_rfl) ?_))
 refine (P0.out _).mono ?_;rintro e w5 ⟨rfl,b5⟩;have H4:=hide (X4.out.1.next b5);have X5:=hide (X4.out.next b5);have O5:=hide (O4.out.trans (zay b5));have N5:=hide ((b5.block z LZ.out).trans M4.out);clear b5 X4 O4 M4 P0 SG
 go_wp2_with (first
  |(refine zau rfl 55 (.tmp 100) (.tmp 98) rfl b 9247 4 q rfl rfl H4.out (by decide) (by kernel_rfl) GQ.out ?_
    refine zaj fun w6 hw6=>?_
    have B6:But b w5 w6:=(by rw [hw6];exact But.cells _ _ _ (But.refl b w5))
    have X6:=hide (X5.out.lay B6 14 ES.out (by rw [hw6];exact H4.out.lay 14 ES.out q (X5.out.isB.off 14 rfl)) (by decide) (by decide));have O6:=hide (O5.out.trans (zbr B6));have M6:=B6.obj N5.out NZ.out.1;have c0:=(cell_of_row w6 z 0 _ _ _ M6).trans rfl;have F16:=hide (zaB (k:=14) E16.out (4,q) (by decide));have c16:=X6.out.1.get1 16 F16.out (a:=9261) (X6.out.isB.off 16 rfl) (by decide);have z16:=X6.out.1.frozen 9261;have H7:=hide (X6.out.1.put1 16 F16.out (a:=9261) (X6.out.isB.off 16 rfl) (.int .i64 y))
    clear hw6 B6 M6 N5 H4 X5 O5)
  |(go_at_call 214;refine (D0.out _).mono ?_;rintro e w' ⟨rfl,hw⟩;subst w'))
 go_end0;have B7:=(But.refl b w6).set 9261 (.int .i64 y);exact ⟨rfl,X6.out.lay B7 16 F16.out H7.out (by decide) (by decide),O6.out.trans (zbr B7)⟩
end Go.Proofs.YtdiidjehdginnaaGreatDoor.L24
