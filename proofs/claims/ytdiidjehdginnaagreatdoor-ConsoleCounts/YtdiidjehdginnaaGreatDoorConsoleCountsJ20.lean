/- Texts put together. -/
import Derived.Test.YtdiidjehdginnaaGreatDoorConsoleCountsJ19
import Derived.Test.YtdiidjehdginnaaGreatDoorConsoleCountsJ05
import Derived.Test.YtdiidjehdginnaaGreatDoorConsoleCountsJ17
import Derived.Test.YtdiidjehdginnaaGreatDoorConsoleCountsJ18
import Derived.Test.YtdiidjehdginnaaGreatDoorConsoleCountsJ15
import Derived.Deep.CutRange
import Derived.Test.YtdiidjehdginnaaGreatDoorConsoleCountsJ02
import Derived.Test.YtdiidjehdginnaaGreatDoorConsoleCountsJ08
namespace Go.Proofs.YtdiidjehdginnaaGreatDoor.P22
set_option maxHeartbeats 8000000
set_option maxRecDepth 20000
open N21
open Go.RowKit
set_option linter.unusedVariables false
variable {k:Nat} {f:Nat→Int} {P:Program}
theorem results_tmp_agg {fn:Func} {p u:Tmp} {ty:TypeId} (h:fn.results=#[.tmp u,.cell p ty]) (tmps:Array Value) (w:World) (g:Nat) (t:TypeId) (cs:Array Value) (fr:Nat×Nat) (d:TypeDesc)
  (hp:tmps.getD p undef=.pointer (some ⟨g,0,none⟩)) (hg:w.heap[g]? = some (.cells cs t fr))
  (hu:P.underlying ty=some d) (hd:(match d with|.struct _|.array _ _=>true|_=>false)=true) (hi:(P.info? ty).map (·.size)=some cs.size):
  (results fn tmps).run P w=.ok (.tuple #[tmps.getD u undef,.agg cs]) w:=by
 have hp':tmps[p]?.getD undef=.pointer (some ⟨g,0,none⟩):=by simpa using hp
 simp [results,h,hp',asAddr,run_loadVar_row w g t ty cs fr d hg hu hd hi]
theorem wpQuiet_row {ops:Array Oper} {C:World→Prop} {Q:Act→Prop} {a:Act} {o:Oper} {rest:List Oper} (hw:Region.wanted o (yielded ops a.tmps)=true) (ty:TypeId) (x:Operand) (ho:o.op=.load ty x)
  (g:Nat) (hx:a.eval x=.pointer (some ⟨g,0,none⟩)) (t:TypeId) (cs:Array Value) (fr:Nat×Nat) (d:TypeDesc) (hg:∀w,C w→w.heap[g]? = some (.cells cs t fr))
  (hu:P.underlying ty=some d) (hd:(match d with|.struct _|.array _ _=>true|_=>false)=true) (hi:(P.info? ty).map (·.size)=some cs.size)
  (h:wpQuiet P ops C Q rest (a.put o.dst (.agg cs))):wpQuiet P ops C Q (o::rest) a:=by
 unfold wpQuiet;rw [if_pos hw];refine ⟨.agg cs,fun w hC=>?_,h⟩;unfold Oper.quietAt execOp;simp only [ho,hx,Instr.loadAt,Instr.sureAddr,Sem.run_bind,Sem.run_pure,Result.andThen_ok,run_loadVar_row w g t ty cs fr d (hg w hC) hu hd hi];exact ⟨rfl,rfl⟩
theorem zhn (N:Nat) (h1:N≤65536) (w:World):
  (Instr.makeSlice 26 (.int .i64 (N:Int)) (.int .i64 (N:Int))).run Tryz.prog w=.ok (.slice (some ⟨w.heap.size,0,none⟩) N N) (w.alloc (.cells (rowF (iv fun _=>0) (N*2)) 205)):=by
 have hb:Tryz.t205.bytes=16:=rfl;rw [Go.run_make w 26 205 Tryz.t205 (.agg #[.int .i64 0,.int .i64 0]) Tryz.underlying26 (by kernel_rfl) rfl .i64 .i64 N N (by omega) (by omega) (by rw [hb];omega) (by omega)];have e1:madeCells (Value.cells (.agg #[.int .i64 0,.int .i64 0])) (N*Tryz.t205.size)=rowF (iv fun _=>0) (N*2):=by
  rw [show Tryz.t205.size=2 from rfl];apply Array.ext_getElem?;intro j
  by_cases k:j<N*2
  ·rw [zbp _ _ _ k];simp only [madeCells,Value.cells,iv];rw [Array.getElem?_eq_getElem (by simpa using k)];rcases (show j%2=0∨j%2=1 by omega) with e|e<;>simp [e]
  ·rw [zcZ _ _ _ k,Array.getElem?_eq_none (by rw [size_madeCells];omega)]
 simp only [Int.toNat_natCast,e1]
def smp (f:Nat→Int) (j:Nat):Int:=if j%2=0 then zju (itF f (j/2+1)) else zgU (itF f (j/2+1))
def ziX (f:Nat→Int) (n:Nat):Nat→Int:=fun j=>if j<n*2 then smp f j else 0
theorem zqk (f:Nat→Int) (k N:Nat):∀j,j<N*2→(if k*2≤j∧j<k*2+2 then (if j-k*2=0 then Value.int .i64 (zju (itF f (k+1))) else .int .i64 (zgU (itF f (k+1)))) else iv (ziX f k) j)=iv (ziX f (k+1)) j:=fun j hj=>by
 unfold iv ziX smp
 by_cases h:k*2≤j∧j<k*2+2
 ·rw [if_pos h,if_pos (c:=j<(k+1)*2) (by omega),show j/2=k by omega]
  by_cases e:j-k*2=0
  ·rw [if_pos e,if_pos (by omega)]
  ·rw [if_neg e,if_neg (by omega)]
 ·rw [if_neg h]
  by_cases h2:j<k*2
  ·rw [if_pos h2,if_pos (c:=j<(k+1)*2) (by omega)]
  ·rw [if_neg h2,if_neg (c:=j<(k+1)*2) (by omega)]
def zdD (F f:Nat→Int) (k:Nat):Nat→Int:=fun i=>if i<4+k*40 then F i else f i
theorem zCW {F:Nat→Int} (h:Alike f F):zdD F f 0=f:=by
 funext i;unfold zdD;split
 ·exact h.1 i (by omega)
 ·rfl
theorem ztT (F f:Nat→Int) (A:Int) (k:Nat):∀j,j<244→iv (up (fun j=>if 4+k*40≤j∧j<4+k*40+40 then (if j-(4+k*40)=37 then A else ch F k (j-(4+k*40))) else zdD F f k j) (4+k*40+37) (ch F k 37)) j=iv (zdD F f (k+1)) j:=fun j hj=>by
 unfold iv up zdD ch
 by_cases h:j=4+k*40+37
 ·rw [if_pos h,if_pos (by omega),h]
 ·rw [if_neg h];dsimp only
  by_cases h2:4+k*40≤j∧j<4+k*40+40
  ·rw [if_pos h2,if_neg (by omega),if_pos (by omega),show 4+k*40+(j-(4+k*40))=j by omega]
  ·rw [if_neg h2]
   by_cases h3:j<4+k*40
   ·rw [if_pos h3,if_pos (by omega)]
   ·rw [if_neg h3,if_neg (by omega)]
theorem zCX (F f:Nat→Int):rowF (iv (zdD F f 6)) 244=rowF (iv F) 244:=zbh fun j hj=>by
 unfold iv zdD;rw [if_pos (by omega)]
theorem zCY:(Tryz.prog.info? 205).map (·.size)=some 2:=by kernel_rfl
def ztU (x y:Int) (j:Nat):Value:=if j=0 then .int .i64 x else .int .i64 y
theorem ztV (x y:Int) (j:Nat):(ztU x y j).oneCell'=true:=by unfold ztU;split<;>rfl
theorem zwC (x y:Int):Value.agg #[.int .i64 x,.int .i64 y]=.agg (rowF (ztU x y) 2):=rfl
theorem zwD (f:Nat→Int) (k N:Nat):∀j,j<N*2→(if k*2≤j∧j<k*2+2 then ztU (zju (itF f (k+1))) (zgU (itF f (k+1))) (j-k*2) else iv (ziX f k) j)=iv (ziX f (k+1)) j:=zqk f k N
def zjD (f F:Nat→Int) (k:Nat):Nat→Int:=fun j=>if j=37 then accs f k else ch F k j
theorem zql {F P:Nat→Int} :∀j,j<40→vrow F (accs f) P (k*48+2+j)=iv (zjD f F k) j:=fun j hj=>by
 rw [show k*48+2+j=k*48+(2+j) by omega,zct _ _ _ _ _ (by omega)];unfold vAt iv zjD;rw [if_neg (by omega),if_neg (by omega),if_pos (by omega),show 2+j-2=j by omega]
 by_cases e:j=37
 ·rw [if_pos (by omega),if_pos e]
 ·rw [if_neg (by omega),if_neg e]
theorem ztW (f F:Nat→Int) (j:Nat):∀i,i<244→(if 4+j*40≤i∧i<4+j*40+40 then iv (zjD f F j) (i-(4+j*40)) else iv (zdD F f j) i)=iv (fun i=>if 4+j*40≤i∧i<4+j*40+40 then (if i-(4+j*40)=37 then accs f j else ch F j (i-(4+j*40))) else zdD F f j i) i:=fun i _=>by
 unfold iv zjD;dsimp only;split<;>rfl
def Rest (w w':World) (s0 vb g N:Nat) (f F:Nat→Int) (k:Nat):Prop:=(∃P,Pers F P∧HasF 208 w' vb 288 (vrow F (accs f) P))∧HasF 205 w' g (N*2) (iv (ziX f k))∧HasF 49 w' s0 244 (iv f)∧HasF 49 w' (s0+1) 244 (iv fun _=>0)∧Below s0 w w'
theorem zmR (f:Nat→Int) (N:Nat) (n1:1≤N) (n2:N≤65536) (ok:okP f) (w:World) (hL:HasLevels w):Calls Tryz.prog 62 #[.agg (rowF (iv f) 244),.int .i64 (N:Int)] w fun e w'=>∃g,e=Ending.returned (.tuple #[.slice (some ⟨g,0,none⟩) N N,.agg (rowF (iv (itF f N)) 244)])∧HasF 205 w' g (N*2) (iv (smp f))∧Below w.heap.size w w':=by
 have KV:=hide (fun w=>valid_any f w);rw [(vB_iff f).1 ok] at KV;have HL:=hide hL;have OK:=hide ok;have P0:=hide (zbo 49 w 244 (iv f));clear ok hL;have hmk:=zhn N n2;have hd1:decide ((N:Int)<1)=false:=by simp;omega
 have hd2:decide (65536<(N:Int))=false:=by simp;omega
 go_enter Tryz.func62,Tryz.ntmps62
 go_wp2_with (first
  |(refine zav rfl 49 rfl (rowF (iv fun _=>0) 244) zero_P ?_)
  |(refine zav rfl 208 rfl (rowF zV 288) zero_V ?_)
  |(refine zaj fun w1 hw1=>?_;obtain ⟨n0,n1,n2,n3⟩:=two_named hw1;have P1:Hid (HasF 49 w1 w.heap.size 244 (iv f)):=hide n0;have Z1:Hid (HasF 49 w1 (w.heap.size+1) 244 (iv fun _=>0)):=hide n1;have B1:=hide n3;clear n0 n1 n2 n3 hw1 P0;refine wpList_load_row rfl 49 (.tmp 2) rfl w.heap.size rfl _ _ _ _ P1.out Tryz.underlying49 rfl (info_P _) ?_)
  |(go_at_call 39;refine (KV.out _).mono ?_;rintro e w2 ⟨rfl,b2⟩;have P2:=hide (P1.out.next b2);have Z2:=hide (Z1.out.next b2);have B2:=hide (zaz B1.out b2);clear b2 P1 Z1 B1)
  |(go_at_call 97;refine (zqj P2.out (HL.out.next B2.out) OK.out).mono ?_;rintro e w3 ⟨P,hP,rfl,b3⟩;have P3:=hide (P2.out.next b3);have Z3:=hide (Z2.out.next b3);have B3:=hide (zaz B2.out b3);have PP:=hide hP;have LV0:=hide B3.out.size;clear b3 P2 Z2 B2 hP)
  |(refine wpList_store_row rfl 208 (.tmp 6) (.tmp 23) rfl w3.heap.size _ (by simp [Act.eval,Act.put]) rfl 208 _ (zbo _ _ _ _) (info_V _) (by rw [zai,zai]) (zea (N:=288) fun j _=>zkC f _ _ (j/48) (j%48)) ?_;refine zaj fun w4 hw4=>?_;have V4:Hid (HasF 208 w4 w3.heap.size 288 (vrow f (accs f) P)):=hide (by rw [hw4];exact setRow_heap _ _ _ _ _ _ (zbo _ _ _ _));have W4:Hid (Below w3.heap.size w3 w4):=hide (by rw [hw4];exact below_setRow ((Below.refl _ _).alloc (Nat.le_refl _) _) (Nat.le_refl _) _);have P4:=hide (P3.out.next W4.out);have Z4:=hide (Z3.out.next W4.out);have B4:=hide (zaz B3.out W4.out);clear hw4 W4 P3 Z3 B3)
  |(go_at_call 98;refine (ztS P4.out OK.out).mono ?_;rintro e w' ⟨rfl,hw⟩;subst w'))
 refine under_name fun w5 hw5=>?_
 have G5:Hid (HasF 205 w5 w4.heap.size (N*2) (iv (ziX f 0))):=hide (by rw [hw5];exact (zbo _ _ _ _).ext (fun j _=>by unfold iv ziX;rw [if_neg (by omega)]));have W5:Below w4.heap.size w4 w5:=by rw [hw5];exact (Below.refl _ _).alloc (Nat.le_refl _) _
 have V5:=hide (V4.out.next W5);have P5:=hide (P4.out.next W5);have Z5:=hide (Z4.out.next W5);have B5:=hide (zaz B4.out W5);have LG:w.heap.size≤w4.heap.size:=B4.out.size;have LV:w.heap.size≤w3.heap.size:=LV0.out;clear hw5 W5 V4 P4 Z4 B4 hmk KV LV0;generalize w3.heap.size=vb at *;generalize w4.heap.size=g at *;obtain ⟨s0,hs0⟩:∃s,w.heap.size=s:=⟨_,rfl⟩
 rw [hs0] at P5 Z5 B5 LG LV ⊢;have S0:Hid (s0≤w.heap.size):=hide (by omega);replace LG:=hide LG;replace LV:=hide LV;go_loopw [29] (fun i w'=>∃k:Nat,k≤N∧i=.int .i64 k∧Rest w w' s0 vb g N f (itF f k) k) (fun i _=>N-(intOf i).toNat)
 case atStart=>exact ⟨0,Nat.zero_le _,rfl,⟨P,PP.out,V5.out⟩,G5.out,P5.out,Z5.out,B5.out⟩
 case round=>
  clear V5 G5 P5 Z5 B5 PP;obtain ⟨k,hk,rfl,⟨P1,hP1,hV1⟩,hG1,hQ1,hZ1,hB1⟩:=hrel;have V1:=hide hV1;have G1:=hide hG1;have Q1:=hide hQ1;have Z1:=hide hZ1;have B1:=hide hB1
  by_cases hlt:k<N
  ·have KG:=hide (zwA hV1 (zts OK.out k) hP1);have OK2:Hid (okP (itF f (k+1))):=hide (zts OK.out (k+1));rw [(zkw f k).lfo,show zfD (itF f k)=itF f (k+1) from rfl] at KG;have NX:=hide (zwD f k N);clear hV1 hP1 hG1 hQ1 hZ1 hB1;obtain ⟨F1,hF1⟩:∃F,itF f (k+1)=F:=⟨_,rfl⟩
   rw [hF1] at KG OK2 NX;replace hF1:=hide hF1
   go_wp2_with (first
    |(go_at_call 99;refine KG.out.mono ?_;rintro e w2 ⟨rfl,P2,hV2,hP2,b2⟩;have V2:=hide hV2;have E2:=hide hP2;have G2:=hide (b2.keep G1.out (zcc G1.out V1.out (by decide)));have Q2:=hide (b2.keep Q1.out (zcc Q1.out V1.out (by decide)));have Z2:=hide (b2.keep Z1.out (zcc Z1.out V1.out (by decide)));have B2:=hide (bbut B1.out b2 LV.out S0.out);clear hV2 hP2 b2 V1 G1 Q1 Z1 B1 KG)
    |(go_at_call 100;refine (zzP V2.out OK2.out).mono ?_;rintro e w3 ⟨rfl,b3⟩;have V3:=hide (V2.out.next b3);have G3:=hide (G2.out.next b3);have Q3:=hide (Q2.out.next b3);have Z3:=hide (Z2.out.next b3);have B3:=hide (zgv B2.out S0.out b3);clear b3 V2 G2 Q2 Z2 B2)
    |(refine zau rfl 205 (.tmp 37) (.tmp 36) rfl g (k*2) 2 (ztU (zju F1) (zgU F1)) rfl (zwC _ _) G3.out (by omega) zCY (fun j _=>ztV _ _ j) ?_;refine zaj fun w6 hw6=>?_;have b6:But g w3 w6:=(by rw [hw6];exact But.cells _ _ _ (But.refl _ _));have G6:Hid (HasF 205 w6 g (N*2) (iv (ziX f (k+1)))):=hide (by rw [hw6];exact (G3.out.cells _ _ _).ext NX.out);have V6:=hide (b6.keep V3.out (zcc V3.out G3.out (by decide)));have Q6:=hide (b6.keep Q3.out (zcc Q3.out G3.out (by decide)));have Z6:=hide (b6.keep Z3.out (zcc Z3.out G3.out (by decide)));have B6:=hide (bbut B3.out b6 LG.out S0.out);clear b6 hw6 V3 G3 Q3 Z3 B3))
   exact ⟨⟨k+1,by omega,by go_num,by rw [hF1.out];exact ⟨⟨P2,E2.out,V6.out⟩,G6.out,Q6.out,Z6.out,B6.out⟩⟩,by simp [intOf];omega⟩
  ·obtain rfl:k=N:=by omega
   have AL:=zkw f k;have G2:Hid (HasF 205 wr g (k*2) (iv (smp f))):=hide (hG1.ext fun j hj=>by unfold iv ziX;rw [if_pos hj]);have Q2:Hid (HasF 49 wr s0 244 (iv (zdD (itF f k) f 0))):=hide (by rw [zCW AL];exact hQ1);clear hV1 hP1 hG1 hQ1 hZ1 hB1 G1 Q1 AL;obtain ⟨F,hF⟩:∃F,itF f k=F:=⟨_,rfl⟩
   rw [hF] at V1 Q2;replace hF:=hide hF;go_wp2_with fail;go_loopw [39] (fun i w'=>∃j:Nat,j≤6∧i=.int .i64 j∧HasF 208 w' vb 288 (vrow F (accs f) P1)∧HasF 205 w' g (k*2) (iv (smp f))∧HasF 49 w' s0 244 (iv (zdD F f j))∧HasF 49 w' (s0+1) 244 (iv fun _=>0)∧Below s0 w w') (fun i _=>6-(intOf i).toNat)
   case atStart=>exact ⟨0,by decide,rfl,V1.out,G2.out,Q2.out,Z1.out,B1.out⟩
   case round=>
    clear V1 G2 Q2 Z1 B1;obtain ⟨j,hj,rfl,hV,hG,hQ,hZ,hB⟩:=hrel;have V1:=hide hV;have G1:=hide hG;have Q1:=hide hQ;have Z1:=hide hZ;have B1:=hide hB;clear hV hG hQ hZ hB
    by_cases hlt6:j<6
    ·have NVS:Hid (vb≠s0):=hide (zcc V1.out Q1.out (by decide));have NGS:Hid (g≠s0):=hide (zcc G1.out Q1.out (by decide));have CB:Hid (∀(u:World),HasF 49 u s0 244 (iv fun i=>if 4+j*40≤i∧i<4+j*40+40 then (if i-(4+j*40)=37 then accs f j else ch F j (i-(4+j*40))) else zdD F f j i)→HasF 49 (u.setCell ⟨s0,4+j*40+37,none⟩ (.int .i64 (ch F j 37))) s0 244 (iv (zdD F f (j+1)))):=hide (fun u hu=>(hu.up _ _).ext (ztT F f (accs f j) j))
     go_wp2_with (first
      |(refine zaw rfl 46 (.tmp 45) rfl vb (j*48+2) rfl V1.out 40 (by omega) (iv (zjD f F j)) zql _ Tryz.underlying46 rfl zgF ?_)
      |(refine zau rfl 46 (.tmp 48) (.tmp 46) rfl s0 (4+j*40) 40 (iv (zjD f F j)) rfl rfl Q1.out (by omega) zgF (fun _ _=>rfl) ?_;refine zaj fun w6 hw6=>?_;have b6:But s0 wr w6:=(by rw [hw6];exact But.cells _ _ _ (But.refl _ _));have Q6:Hid (HasF 49 w6 s0 244 (iv fun i=>if 4+j*40≤i∧i<4+j*40+40 then (if i-(4+j*40)=37 then accs f j else ch F j (i-(4+j*40))) else zdD F f j i)):=hide (by rw [hw6];exact (Q1.out.cells _ _ _).ext (ztW f F j));have V6:=hide (b6.keep V1.out NVS.out);have G6:=hide (b6.keep G1.out NGS.out);have Z6:=hide (b6.keep Z1.out (Nat.succ_ne_self _));have B6:=hide (bbut B1.out b6 (Nat.le_refl _) S0.out);have ct:=ztO V6.out hlt6;have fz:=Q6.out.frozen (4+j*40+37);have cz:=Q6.out.int (4+j*40+37) (by omega);clear b6 hw6 V1 G1 Q1 Z1 B1))
     exact ⟨⟨j+1,by omega,by go_num,V6.out.other _ _ NVS.out,G6.out.other _ _ NGS.out,CB.out _ Q6.out,Z6.out.other _ _ (Nat.succ_ne_self _),zeM B6.out (Nat.le_refl _) _ _⟩,by simp [intOf];omega⟩
    ·obtain rfl:j=6:=by omega
     go_wp2_with fail;have Q2:Hid (HasF 49 wr s0 244 (iv F)):=hide (by rw [HasF,←zCX F f];exact Q1.out);haveI:=zax wr;refine zaR _ _ (show _=[_,_,_]++[_] from rfl) (by kernel_rfl) (by kernel_rfl) (by kernel_rfl) ?_
     repeat (first
      |(refine wpQuiet_row rfl 49 (.tmp 2) rfl s0 rfl 49 _ (0,0) _ (fun w' ⟨x,hx⟩=>by rw [hx];exact (x.block _ Q2.out.lt).trans Q2.out) Tryz.underlying49 rfl (info_P _) ?_;simp only [Act.put,List.setIfInBounds_toArray,List.set_cons_succ,List.set_cons_zero])
      |go_big_quiet_step (fail))
     refine wpQuiet_nil ?_;rintro _ ⟨wk,rfl⟩;have Z3:=hide (Z1.out.next wk.below);have G3:=hide (G1.out.next wk.below);have B3:=hide (zgv B1.out S0.out wk.below)
     go_wp2_with (first
      |(refine wpList_store_row rfl 49 (.tmp 5) (.tmp 60) rfl (s0+1) _ rfl rfl 49 _ Z3.out (info_P _) (by rw [zai,zai]) (zby _ _) ?_))
     refine bodyPost_ret (results_tmp_agg rfl _ _ (s0+1) 49 _ (0,0) _ rfl (setRow_heap _ _ _ _ _ _ Z3.out) Tryz.underlying49 rfl (info_P _)) rfl ?_;exact ⟨g,by rw [hF.out];rfl,G3.out.row _ (zcc G3.out Z3.out (by decide)),by rw [hs0];exact below_setRow B3.out (Nat.le_succ _) _⟩
theorem zfg (h:soOf f k=false):onK f k=f:=by
 unfold onK onP goOf;rw [h];simp
theorem zqm (h:∀k,k<6→soOf f k=false):zfD f=f:=by
 unfold zfD;rw [zfg (h 1 (by decide)),zfg (h 0 (by decide)),zfg (h 2 (by decide)),zfg (h 3 (by decide)),zfg (h 4 (by decide)),zfg (h 5 (by decide))]
theorem zok (h:∀k,k<6→soOf f k=false):∀n,itF f n=f
 |0=>rfl
 |n+1=>by
  show zfD (itF f n)=f;rw [zok h n,zqm h]
theorem samples_off (ok:okP f) (h:∀k,k<6→soOf f k=false) (w:World) (hL:HasLevels w):Calls Tryz.prog 62 #[.agg (rowF (iv f) 244),.int .i64 1] w fun e w'=>∃g,e=.returned (.tuple #[.slice (some ⟨g,0,none⟩) 1 1,.agg (rowF (iv f) 244)])∧(∃F,HasF 205 w' g 2 (iv F))∧Below w.heap.size w w':=by
 have k:=zmR f 1 (by decide) (by decide) ok w hL;rw [zok h] at k;exact k.mono fun e w' ⟨g,a,c,d⟩=>⟨g,a,⟨_,c⟩,d⟩
end Go.Proofs.YtdiidjehdginnaaGreatDoor.P22
namespace Go.Proofs.YtdiidjehdginnaaGreatDoor.L25
set_option maxHeartbeats 8000000
set_option maxRecDepth 20000
open A2 B4 C3 D24 G6 I11 J23 K9 L24 M5 N21 N8 O7 P22 R15 T10 V12 W13
open Go.RowKit
set_option linter.unusedVariables false
variable {f:Bool} {a l p:Int} {bs:List Int} {b c d g lo nl ns q v:Nat} {M:Nat→Int} {Y:Nat→Nat→Int} {W w w':World}
theorem ztX (h:HasC w b v c d bs Y M) {E:Nat→Prop} (k:OnlyE E w w') (hb:¬E b) (hv:¬E v) (hc:¬E c) (hd:¬E d) (hE:∀i,E i→10≤i):HasC w' b v c d bs Y M:=by
 obtain ⟨R0,f0,l0,c0,h⟩:=h;refine ⟨R0,f0,l0,c0,HasP.only h.1 k hb hv hc hd (fun i e=>?_),h.2.1.only k hE,h.2.2⟩;have n5:=hE i e;exact ⟨Nat.lt_of_lt_of_le (by decide) n5,Nat.lt_of_lt_of_le (by decide) n5,Nat.lt_of_lt_of_le (by decide) n5⟩
theorem HasC.lag (h:HasC w b v c d bs Y M) (x:Int) (hx:0≤x∧x≤8388608):HasC (w.setCell ⟨b,9262,none⟩ (.int .i64 x)) b v c d bs (upZ Y 17 (oneV x)) M∧OnlyE (EX b v) w (w.setCell ⟨b,9262,none⟩ (.int .i64 x))∧w.cell? ⟨b,9262,none⟩=some (.int .i64 (Y 17 0))∧w.frozen? ⟨b,9262,none⟩=false:=by
 obtain ⟨R0,f0,l0,c0,h⟩:=h;obtain ⟨p,o,cc,cf⟩:=HasX.lag h.1 (t:=Y 17 0) rfl x;have p2:HasP (w.setCell ⟨b,9262,none⟩ (.int .i64 x)) b v c d bs (upZ (cz Y M R0 f0 l0 c0) 17 (oneV x)):=p;refine ⟨⟨R0,f0,l0,c0,?_⟩,o,cc,cf⟩;rw [←zkq 17 _ (by decide) (by decide)];exact h.bus p2 o (zaJ h.2.2.1 17 _ ⟨hx,rfl⟩)
def RK (lo:Nat) (W w:World) (g b v c d q:Nat) (bs:List Int) (Y:Nat→Nat→Int) (M:Nat→Int) (a p:Int) (pc:Nat) (f:Bool) (l tick wait back:Int) (nl ns:Nat):Prop:=
 CK w g b v c d bs Y M a p pc f l tick wait back∧Told w q nl ns∧HasLevels w∧OnlyE (fun k=>EG b v g k∨q≤k) W w∧(lo≤b∧lo≤v∧lo≤g∧10≤lo∧b<q∧v<q∧c<q∧d<q∧g<q∧lo≤W.heap.size)
theorem zdo (h:HasLevels w) (k:w'.heap[9]? = w.heap[9]?):HasLevels w':=by
 obtain ⟨t,fr,e⟩:=h;exact ⟨t,fr,k.trans e⟩
theorem RK.ck {pc:Nat} {tick wait back:Int}  (h:RK lo W w g b v c d q bs Y M a p pc f l tick wait back nl ns)  {Y':Nat→Nat→Int} {M':Nat→Int} {a' p':Int} {pc':Nat} {f':Bool} {l' tick' wait' back':Int} (k:CK w' g b v c d bs Y' M' a' p' pc' f' l' tick' wait' back') (o:OnlyE (EG b v g) w w'):RK lo W w' g b v c d q bs Y' M' a' p' pc' f' l' tick' wait' back' nl ns:=by
 obtain ⟨h1,h2,h3,h4,h5⟩:=h;have ne:∀j,(q≤j∨j<lo)→¬EG b v g j:=fun j hj e=>by rcases e with (e|e)|e<;>omega
 have lv:9<10:=by decide
 exact ⟨k,h2.keep (fun j hj l=>o.block j l (ne j (.inl hj))),zdo h3 (o.block _ h3.pos (ne _ (.inr (by omega)))),h4.trans (zgm o fun i e=>.inl e),h5⟩
theorem RK.told {pc:Nat} {tick wait back:Int}  (h:RK lo W w g b v c d q bs Y M a p pc f l tick wait back nl ns)  {nl' ns':Nat} (k:Told w' q nl' ns') (o:Below q w w'):RK lo W w' g b v c d q bs Y M a p pc f l tick wait back nl' ns':=by
 obtain ⟨⟨k1,k2,k3,k4⟩,h2,h3,h4,h5⟩:=h;have oe:OnlyE (fun i=>q≤i) w w':=⟨o.os,o.tape,o.output,o.size,fun j _ e=>o.block j (by omega)⟩
 have lv:9<10:=by decide
 have s:=o.size;exact ⟨⟨ztX k1 oe (by omega) (by omega) (by omega) (by omega) (fun i e=>by omega),oe.obj k2 (by omega),k3,by omega⟩,k,zdo h3 (o.block _ (by omega)),h4.trans (zgm oe fun i e=>.inr e),h5⟩
theorem RK.next {pc:Nat} {tick wait back:Int}  (h:RK lo W w g b v c d q bs Y M a p pc f l tick wait back nl ns)  (o:Below w.heap.size w w'):RK lo W w' g b v c d q bs Y M a p pc f l tick wait back nl ns:=by
 obtain ⟨vL,vS,xs,t1,t2⟩:=h.2.1;exact h.told (h.2.1.keep fun j _ l=>o.block j l) (o.mono (by have:=lt_of_block t1;omega))
theorem RK.hl {pc:Nat} {tick wait back:Int}  (h:RK lo W w g b v c d q bs Y M a p pc f l tick wait back nl ns):HasLevels w:=h.2.2.1
theorem CK.psg {pc:Nat} {tick wait back:Int} (h:CK w g b v c d bs Y M a p pc f l tick wait back):∃L,HasF 60 w b 9263 (segs L)∧(∀j,j<244→segs L (8997+j)=iv (Y 11) j)∧P22.okP (Y 11):=by
 obtain ⟨⟨R0,f0,l0,c0,m⟩,_⟩:=h;exact ⟨_,m.1.1,fun j hj=>zhk m.1 11 rfl (a:=8997) rfl j hj,m.2.2.1 11⟩
theorem CK.psg_same {pc:Nat} {tick wait back:Int} (h:CK w g b v c d bs Y M a p pc f l tick wait back):CK (w.setCells b 8997 (rowF (iv (Y 11)) 244).toList) g b v c d bs Y M a p pc f l tick wait back∧OnlyE (EX b v) w (w.setCells b 8997 (rowF (iv (Y 11)) 244).toList):=by
 obtain ⟨⟨R0,f0,l0,c0,m⟩,h2,h3,h4⟩:=h;have k:But b w (w.setCells b 8997 (rowF (iv (Y 11)) 244).toList):=But.cells _ _ _ (But.refl b w);have q:HasF 60 (w.setCells b 8997 (rowF (iv (Y 11)) 244).toList) b 9263 (segs (XP v c (cz Y M R0 f0 l0 c0))):=by
  refine (HasF.cells m.1.1 8997 244 (iv (Y 11))).ext fun j hj=>?_
  by_cases e:8997≤j∧j<8997+244
  ·rw [if_pos e];have s:=zhk m.1 11 rfl (a:=8997) rfl (j-8997) (by omega);rw [show 8997+(j-8997)=j by omega] at s;exact s.symm
  ·rw [if_neg e]
 have p:HasP (w.setCells b 8997 (rowF (iv (Y 11)) 244).toList) b v c d bs (cz Y M R0 f0 l0 c0):=HasX.row m.1 k q m.1.isB rfl rfl;have o:=zbr (v:=v) k;have s:=o.size;exact ⟨⟨⟨R0,f0,l0,c0,m.bus p o m.2.2.1⟩,k.obj h2 h3.1,h3,by omega⟩,o⟩
set_option linter.unusedSimpArgs false
def S7 (R:Array Value) (v:Value) (x:World):Prop:=∃s F,v=.tuple #[.slice (some ⟨s,0,none⟩) 1 1,.agg R]∧HasF 205 x s 2 (iv F)
theorem zzQ {pc:Nat} {tick wait back:Int}  (h:RK lo W w g b v c d q bs Y M a p pc f l tick wait back nl ns) (t:Int) (ht:1≤t∧t≤455) (hw:t≤wait∧wait≤100000) (hk:0≤tick∧tick≤300000) (hlag:0≤Y 17 0∧Y 17 0≤1000000) (hoff:∀k,k<6→P22.soOf (Y 11) k=false) (hns:ns≤100000) {ns':Nat} (hn1:(tick+t)%455=0→ns'=ns+1) (hn0:¬(tick+t)%455=0→ns'=ns):
  Calls Tryz.prog 30 #[.pointer (some ⟨g,0,none⟩),.int .i64 t,.func (.func 12) #[] #[.pointer (some ⟨q,0,none⟩)]] w fun e w'=>e=Ending.returned (.tuple #[])∧RK lo W w' g b v c d q bs (upZ Y 17 (oneV (Y 17 0+t))) M a p pc f l (tick+t) (wait-t) back nl ns':=by
 have H0:=hide h;have c15:=h.1.2.1.at 15 (y:=.int .i64 wait) rfl;have f15:=frozen_of_row w g 15 _ _ h.1.2.1;have LG:=hide (lt_of_block h.1.2.1);clear h;go_enter Tryz.func30,Tryz.ntmps30;go_upto_region 1 with fail;refine under_name fun w1 hw1=>?_
 have H1:=hide (show RK lo W w1 g b v c d q bs Y M a p pc f l tick (wait-t) back nl ns by rw [hw1];exact H0.out.ck (H0.out.1.wait _) (eg_g ((But.refl g w).set 15 _)));clear hw1 H0 c15 f15 LG;have c8:=H1.out.1.2.1.at 8 (y:=.pointer (some ⟨b,0,none⟩)) rfl;obtain ⟨_,_,cl,fl⟩:=H1.out.1.1.lag (Y 17 0+t) (by omega);go_upto_region 2 with fail;refine under_name fun w2 hw2=>?_
 have H2:=hide (show RK lo W w2 g b v c d q bs (upZ Y 17 (oneV (Y 17 0+t))) M a p pc f l tick (wait-t) back nl ns by
  rw [hw2];obtain ⟨x,o,_,_⟩:=H1.out.1.1.lag (Y 17 0+t) (by omega);have k:=H1.out.1
  exact H1.out.ck ⟨x,o.obj k.2.1 (fun e=>by have:=k.2.2.1;rcases e with e|e<;>omega),k.2.2.1,by have:=o.size;have:=k.2.2.2;omega⟩ (zlK o))
 clear hw2 H1 c8 cl fl;have c14:=H2.out.1.2.1.at 14 (y:=.int .i64 tick) rfl;have f14:=frozen_of_row w2 g 14 _ _ H2.out.1.2.1;go_upto_region 3 with fail;refine under_name fun w3 hw3=>?_
 have H3:=hide (show RK lo W w3 g b v c d q bs (upZ Y 17 (oneV (Y 17 0+t))) M a p pc f l (tick+t) (wait-t) back nl ns by rw [hw3];exact H2.out.ck (H2.out.1.tick _) (eg_g ((But.refl g w2).set 14 _)));clear hw3 H2 c14 f14;have c14:=H3.out.1.2.1.at 14 (y:=.int .i64 (tick+t)) rfl;obtain ⟨Y',hY'⟩:∃Y':Nat→Nat→Int,(upZ Y 17 (oneV (Y 17 0+t)))=Y':=⟨_,rfl⟩
 obtain ⟨T,hT⟩:∃T:Int,tick+t=T:=⟨_,rfl⟩
 obtain ⟨D,hD⟩:∃D:Int,wait-t=D:=⟨_,rfl⟩
 have h11:Y' 11=Y 11:=by rw [←hY'];exact zaC _ _ _ _ (by decide)
 rw [←h11] at hoff;rw [hY',hT,hD] at H3;rw [hT] at c14 hn1 hn0;have EQ:=hide (And.intro hY' (And.intro hT hD));have bT:0≤T∧T≤300455:=by omega
 clear hlag hw hk ht h11 hY' hT hD
 by_cases hm:T%455=0
 ·obtain rfl:=hn1 hm;have eb:(T%455==0)=true:=by simpa using hm
  have c8:=H3.out.1.2.1.at 8 (y:=.pointer (some ⟨b,0,none⟩)) rfl;obtain ⟨L,hL,hg,ok⟩:=H3.out.1.psg;have HL:=hide hL;have HG:=hide hg;have KS:=hide (P22.samples_off ok hoff w3 H3.out.hl);have ZI:=hide (P22.info_P (iv (Y' 11)));have ZO:=hide (zby (Y' 11) 244);have ZS:Hid ((rowF (iv fun _=>0) 244).size=(rowF (iv (Y' 11)) 244).size):=hide (by rw [zai,zai]);clear hoff hL hg ok hm hn0 hn1
  go_upto_region 5 with (first
   |(refine zaw rfl 49 (.tmp 47) rfl b 8997 rfl HL.out 244 (by decide) (iv (Y' 11)) HG.out _ Tryz.underlying49 rfl (by kernel_rfl) ?_)
   |(go_at_call 62;refine KS.out.mono ?_;rintro e w4 ⟨s,rfl,⟨F,hf⟩,b4⟩;have H4:=hide (H3.out.next b4);have HF4:=hide hf;clear hf b4 KS)
   |(refine zav rfl 49 rfl (rowF (iv fun _=>0) 244) P22.zero_P ?_)
   |(refine wpList_store_row rfl 49 (.tmp 7) (.tmp 51) rfl w4.heap.size _ rfl rfl 49 _ (heap_alloc_new _ _) ZI.out ZS.out ZO.out ?_))
  refine under_name fun w5 hw5=>?_
  have B5:Below w4.heap.size w4 w5:=by rw [hw5];exact below_setRow ((Below.refl _ w4).alloc (Nat.le_refl _) _) (Nat.le_refl _) _
  have H5:=hide (H4.out.next B5);have F5:=hide (HF4.out.next B5);have R5:=hide (show w5.heap[w4.heap.size]? = some (.cells (rowF (iv (Y' 11)) 244) 49 (0,0)) by rw [hw5];exact setRow_heap _ _ _ _ _ _ (heap_alloc_new _ _));clear hw5 B5 H4 HF4 H3 HL HG c8 c14;obtain ⟨z,hz⟩:∃z,w4.heap.size=z:=⟨_,rfl⟩
  rw [hz] at R5 ⊢;clear hz;obtain ⟨S0,hS0⟩:∃S:World→Prop,S=fun y=>RK lo W y g b v c d q bs Y' M a p pc f l T D back nl ns∧y.heap[z]? = some (.cells (rowF (iv (Y' 11)) 244) 49 (0,0))∧HasF 205 y s 2 (iv F):=⟨_,rfl⟩
  obtain ⟨S1,hS1⟩:∃S:World→Prop,S=fun y=>RK lo W y g b v c d q bs Y' M a p pc f l T D back nl ns∧HasF 205 y s 2 (iv F):=⟨_,rfl⟩
  have Q0:=hide (fun y (k:S0 y)=>show RK lo W y g b v c d q bs Y' M a p pc f l T D back nl ns∧y.heap[z]? = some (.cells (rowF (iv (Y' 11)) 244) 49 (0,0))∧HasF 205 y s 2 (iv F) by rw [hS0] at k;exact k);have Q1:=hide (fun y (k:S1 y)=>show RK lo W y g b v c d q bs Y' M a p pc f l T D back nl ns∧HasF 205 y s 2 (iv F) by rw [hS1] at k;exact k);have Z0:=hide (show S0 w5.drew by rw [hS0];exact ⟨H5.out.next (Below.refl _ w5).drew,R5.out,F5.out.next (Below.refl _ w5).drew⟩)
  have P1:=hide (fun y (k:S0 y)=>show S1 (y.setCells b 8997 (rowF (iv (Y' 11)) 244).toList) by
   rw [hS1];obtain ⟨k1,_,k3⟩:=Q0.out y k;obtain ⟨x,o⟩:=k1.1.psg_same;obtain ⟨L,hL,_⟩:=k1.1.psg
   exact ⟨k1.ck x (zlK o),(But.cells _ _ _ (But.refl b y)).keep k3 (zcc k3 hL (by decide))⟩)
  have PB5:=hide (fun y (k:S0 y)=>(Q0.out y k).1.1.2.1.at 8 (y:=.pointer (some ⟨b,0,none⟩)) rfl);have RZ:=hide (fun y (k:S0 y)=>(Q0.out y k).2.1);have PS:=hide (fun y (k:S0 y)=>(Q0.out y k).1.1.psg);clear hS0 hS1 H5 F5 R5 eb;go_wp2_with fail;refine zaD (zcx [.pointer (some ⟨g,0,none⟩),.pointer (some ⟨g,0,none⟩),.pointer (some ⟨g,8,none⟩),.pointer (some ⟨b,0,none⟩),.agg (rowF (iv (Y' 11)) 244),.pointer (some ⟨b,0,none⟩),.pointer (some ⟨b,8997,none⟩),undef]) (fun dd ww=>(stgs [S0,S1]) (cntD [7] dd) ww) _ (fun vals=>by simp only [zaA,Act.put,List.setIfInBounds_toArray,List.set_cons_succ,List.set_cons_zero,Nat.reduceAdd];rfl) (by kernel_rfl) (by kernel_rfl) (by kernel_rfl) (fun dn hd=>zbe hd (Z0.out)) ?_ ?_
  ·repeat' first|refine zaW (fun vals dn x hi hc hk hs=>?_) ?_|exact zbb
   ·go_wp2_with fail;exact zad _ rfl rfl (zac rfl hs)
   ·obtain ⟨⟨(h0:vals 0=.pointer (some ⟨g,0,none⟩)),t0⟩,_⟩:=hk;simp only [h0];clear h0;go_wp2_with fail;exact zad _ rfl rfl (zac rfl hs)
   ·obtain ⟨⟨(h1:vals 1=.pointer (some ⟨g,0,none⟩)),t1⟩,_⟩:=hk;simp only [h1];clear h1;go_wp2_with fail;exact zad _ rfl rfl (zac rfl hs)
   ·obtain ⟨⟨(h2:vals 2=.pointer (some ⟨g,8,none⟩)),t2⟩,_⟩:=hk;simp only [h2];clear h2;have d7:=zap hc hi 7 60 (by kernel_rfl);have hn:cntD [7] dn=0:=by simp only [cntD,d7];rfl
    have hs1:=zan hn hs;have q:=PB5.out x hs1;go_wp2_with fail;exact zad _ rfl rfl (zac rfl hs)
   ·have d7:=zap hc hi 7 60 (by kernel_rfl);have hn:cntD [7] dn=0:=by simp only [cntD,d7];rfl
    have hs1:=zan hn hs;refine wpList_load_row rfl 49 (.tmp 7) rfl z rfl _ _ _ _ (RZ.out x hs1) Tryz.underlying49 rfl ZI.out ?_;exact zad _ rfl rfl (zac rfl hs)
   ·obtain ⟨⟨(h3:vals 3=.pointer (some ⟨b,0,none⟩)),t3⟩,⟨(h0:vals 0=.pointer (some ⟨g,0,none⟩)),t0⟩,⟨(h1:vals 1=.pointer (some ⟨g,0,none⟩)),t1⟩,⟨(h2:vals 2=.pointer (some ⟨g,8,none⟩)),t2⟩,_,⟨(h4:vals 4=.agg (rowF (iv (Y' 11)) 244)),t4⟩,_⟩:=hk;simp only [h3];clear h3 h0 h1 h2 h4;go_wp2_with fail;exact zad _ rfl rfl (zac rfl hs)
   ·obtain ⟨⟨(h5:vals 5=.pointer (some ⟨b,0,none⟩)),t5⟩,⟨(h0:vals 0=.pointer (some ⟨g,0,none⟩)),t0⟩,⟨(h1:vals 1=.pointer (some ⟨g,0,none⟩)),t1⟩,⟨(h2:vals 2=.pointer (some ⟨g,8,none⟩)),t2⟩,⟨(h3:vals 3=.pointer (some ⟨b,0,none⟩)),t3⟩,⟨(h4:vals 4=.agg (rowF (iv (Y' 11)) 244)),t4⟩,_⟩:=hk;simp only [h5];clear h5 h0 h1 h2 h3 h4;go_wp2_with fail;exact zad _ rfl rfl (zac rfl hs)
   ·obtain ⟨⟨(h6:vals 6=.pointer (some ⟨b,8997,none⟩)),t6⟩,⟨(h4:vals 4=.agg (rowF (iv (Y' 11)) 244)),t4⟩,⟨(h0:vals 0=.pointer (some ⟨g,0,none⟩)),t0⟩,⟨(h1:vals 1=.pointer (some ⟨g,0,none⟩)),t1⟩,⟨(h2:vals 2=.pointer (some ⟨g,8,none⟩)),t2⟩,⟨(h3:vals 3=.pointer (some ⟨b,0,none⟩)),t3⟩,_,_⟩:=hk;simp only [h6,h4];clear h6 h4 h0 h1 h2 h3;have d7:=hi;have hn:cntD [7] dn=0:=by simp only [cntD,d7];rfl
    have hs1:=zan hn hs;have hn2:cntD [7] (updD dn 7)=1:=by show (if updD dn 7 7=true then 1 else 0)+0=1;rw [zaI];rfl
    have HN2:=hide hn2;clear hn hn2;have H2:=hide (P1.out x hs1)
    (obtain ⟨L,hL,_⟩:=PS.out x hs1;refine zau rfl 49 (.tmp 58) (.tmp 56) rfl b 8997 244 (iv (Y' 11)) rfl rfl hL (by decide) (by kernel_rfl) (fun _ _=>rfl) ?_)
    exact zad _ rfl rfl (zbu HN2.out H2.out)
  rintro vals dn x hall hs hv;clear hv;have hn:cntD [7] dn=1:=by show (if dn 7=true then 1 else 0)+0=1;rw [hall 7 (by decide)];rfl
  have hs:=zan hn hs;clear hn hall;have hs:S1 x:=hs;obtain ⟨k1,k2⟩:=Q1.out x hs;have H6:=hide k1;have F6:=hide k2;clear k1 k2 hs Q0 Q1 Z0 P1 PB5 RZ PS ZI ZO ZS
  go_upto_region 7 with (first
   |(go_at_call 12;refine (zwe H6.out.2.1 F6.out (by omega)).mono ?_;rintro e w7 ⟨rfl,t7,b7⟩;have H7:=hide (H6.out.told t7 b7);clear t7 b7 H6 F6))
  have KF:=hide (show ∀u,Calls Tryz.prog 20 #[.agg #[.int .i64 8,.int .i64 3,.int .i64 4,.int .i64 4,.int .i64 262]] u fun e u'=>e=Ending.returned (.int .i64 357630)∧Below u.heap.size u u' from fun u=>ziu 8 3 4 4 262 u (by decide) (by decide));have ef:(T==357630)=false:=by simp;omega
  have CT4:=hide (fun (u:World) (hb:Below w7.heap.size w7 u)=>(H7.out.next hb).1.2.1.at 14 (y:=.int .i64 T) rfl)
  have RG:=hide (fun (u:World) (hb:Below w7.heap.size w7 u)=>zcW (H7.out.next hb).1.2.1 9 (#[.int .i64 8,.int .i64 3,.int .i64 4,.int .i64 4,.int .i64 262]:Array Value).toList (by
   intro j y hy
   rcases j with _|_|_|_|_|j<;>first|exact hy|exact absurd hy (by simp)))
  refine zbT (zlG [eqF (.pointer (some ⟨g,0,none⟩)),eqF (.pointer (some ⟨g,0,none⟩)),eqF (.pointer (some ⟨g,14,none⟩)),eqF (.int .i64 T),eqF (.pointer (some ⟨g,0,none⟩)),eqF (.pointer (some ⟨g,0,none⟩)),eqF (.pointer (some ⟨g,9,none⟩)),eqF (.agg #[.int .i64 8,.int .i64 3,.int .i64 4,.int .i64 4,.int .i64 262]),eqF (.int .i64 357630),eqF (.bool false)]) _ (fun vals=>by simp only [List.append_eq,List.cons_append,List.nil_append,zaA,Act.put,List.setIfInBounds_toArray,List.set_cons_succ,List.set_cons_zero,Nat.reduceAdd];rfl) (by kernel_rfl) (by kernel_rfl) (by kernel_rfl) (zdS (by simp only [List.mem_cons,List.not_mem_nil,or_false,forall_eq_or_imp,forall_eq];refine ⟨zae,zae,zae,zae,zae,zae,zae,zae,zae,zae⟩)) ?_ ?_
  ·refine zab (fun vals u hb hf=>?_) (zab (fun vals u hb hf=>?_) (zab (fun vals u hb hf=>?_) (zab (fun vals u hb hf=>?_) (zab (fun vals u hb hf=>?_) (zab (fun vals u hb hf=>?_) (zab (fun vals u hb hf=>?_) (zab (fun vals u hb hf=>?_) (zab (fun vals u hb hf=>?_) (zab (fun vals u hb hf=>?_) zcb)))))))))
   ·go_wp2_with fail;exact zaa _ rfl rfl (Below.refl _ _)
   ·obtain ⟨(h0:vals 0=.pointer (some ⟨g,0,none⟩)),_⟩:=hf;simp only [h0];clear h0;go_wp2_with fail;exact zaa _ rfl rfl (Below.refl _ _)
   ·obtain ⟨(h1:vals 1=.pointer (some ⟨g,0,none⟩)),_⟩:=hf;simp only [h1];clear h1;go_wp2_with fail;exact zaa _ rfl rfl (Below.refl _ _)
   ·obtain ⟨(h2:vals 2=.pointer (some ⟨g,14,none⟩)),_⟩:=hf;simp only [h2];clear h2;have q:=CT4.out u hb;go_wp2_with fail;exact zaa _ rfl rfl (Below.refl _ _)
   ·go_wp2_with fail;exact zaa _ rfl rfl (Below.refl _ _)
   ·obtain ⟨(h4:vals 4=.pointer (some ⟨g,0,none⟩)),_⟩:=hf;simp only [h4];clear h4;go_wp2_with fail;exact zaa _ rfl rfl (Below.refl _ _)
   ·obtain ⟨(h5:vals 5=.pointer (some ⟨g,0,none⟩)),_⟩:=hf;simp only [h5];clear h5;go_wp2_with fail;exact zaa _ rfl rfl (Below.refl _ _)
   ·obtain ⟨(h6:vals 6=.pointer (some ⟨g,9,none⟩)),_⟩:=hf;simp only [h6];clear h6;go_wp2_with (first|(refine zbv rfl 67 (.tmp 68) rfl g 9 rfl _ _ (RG.out u hb) Tryz.underlying67 rfl (by kernel_rfl) ?_));exact zaa _ rfl rfl (Below.refl _ _)
   ·obtain ⟨(h7:vals 7=.agg #[.int .i64 8,.int .i64 3,.int .i64 4,.int .i64 4,.int .i64 262]),_⟩:=hf;simp only [h7];clear h7;go_wp2_with fail;refine (KF.out _).mono ?_;rintro e u2 ⟨rfl,b2⟩;go_wp2_with fail;exact zaa _ rfl rfl b2
   ·obtain ⟨(h3:vals 3=.int .i64 T),(h8:vals 8=.int .i64 357630),_⟩:=hf;simp only [h3,h8];clear h3 h8;go_wp2_with fail;exact zaa _ rfl rfl (Below.refl _ _)
  rintro vals wq hb hall;obtain ⟨_,_,_,_,_,_,_,_,_,(h9:vals 9=.bool false),_⟩:=hall;simp only [h9];clear h9;have HE:=hide (H7.out.next hb);clear hb CT4 RG;go_wp2_with fail;go_end0;refine ⟨rfl,?_⟩;rw [EQ.out.1,EQ.out.2.1,EQ.out.2.2];exact HE.out
 ·obtain rfl:=hn0 hm;have eb:(T%455==0)=false:=by simpa using hm
  go_upto_region 7 with fail;clear hm hn0 hn1;have KF:=hide (show ∀u,Calls Tryz.prog 20 #[.agg #[.int .i64 8,.int .i64 3,.int .i64 4,.int .i64 4,.int .i64 262]] u fun e u'=>e=Ending.returned (.int .i64 357630)∧Below u.heap.size u u' from fun u=>ziu 8 3 4 4 262 u (by decide) (by decide));have ef:(T==357630)=false:=by simp;omega
  have CT4:=hide (fun (u:World) (hb:Below w3.heap.size w3 u)=>(H3.out.next hb).1.2.1.at 14 (y:=.int .i64 T) rfl)
  have RG:=hide (fun (u:World) (hb:Below w3.heap.size w3 u)=>zcW (H3.out.next hb).1.2.1 9 (#[.int .i64 8,.int .i64 3,.int .i64 4,.int .i64 4,.int .i64 262]:Array Value).toList (by
   intro j y hy
   rcases j with _|_|_|_|_|j<;>first|exact hy|exact absurd hy (by simp)))
  refine zbT (zlG [eqF (.pointer (some ⟨g,0,none⟩)),eqF (.pointer (some ⟨g,0,none⟩)),eqF (.pointer (some ⟨g,14,none⟩)),eqF (.int .i64 T),eqF (.pointer (some ⟨g,0,none⟩)),eqF (.pointer (some ⟨g,0,none⟩)),eqF (.pointer (some ⟨g,9,none⟩)),eqF (.agg #[.int .i64 8,.int .i64 3,.int .i64 4,.int .i64 4,.int .i64 262]),eqF (.int .i64 357630),eqF (.bool false)]) _ (fun vals=>by simp only [List.append_eq,List.cons_append,List.nil_append,zaA,Act.put,List.setIfInBounds_toArray,List.set_cons_succ,List.set_cons_zero,Nat.reduceAdd];rfl) (by kernel_rfl) (by kernel_rfl) (by kernel_rfl) (zdS (by simp only [List.mem_cons,List.not_mem_nil,or_false,forall_eq_or_imp,forall_eq];refine ⟨zae,zae,zae,zae,zae,zae,zae,zae,zae,zae⟩)) ?_ ?_
  ·refine zab (fun vals u hb hf=>?_) (zab (fun vals u hb hf=>?_) (zab (fun vals u hb hf=>?_) (zab (fun vals u hb hf=>?_) (zab (fun vals u hb hf=>?_) (zab (fun vals u hb hf=>?_) (zab (fun vals u hb hf=>?_) (zab (fun vals u hb hf=>?_) (zab (fun vals u hb hf=>?_) (zab (fun vals u hb hf=>?_) zcb)))))))))
   ·go_wp2_with fail;exact zaa _ rfl rfl (Below.refl _ _)
   ·obtain ⟨(h0:vals 0=.pointer (some ⟨g,0,none⟩)),_⟩:=hf;simp only [h0];clear h0;go_wp2_with fail;exact zaa _ rfl rfl (Below.refl _ _)
   ·obtain ⟨(h1:vals 1=.pointer (some ⟨g,0,none⟩)),_⟩:=hf;simp only [h1];clear h1;go_wp2_with fail;exact zaa _ rfl rfl (Below.refl _ _)
   ·obtain ⟨(h2:vals 2=.pointer (some ⟨g,14,none⟩)),_⟩:=hf;simp only [h2];clear h2;have q:=CT4.out u hb;go_wp2_with fail;exact zaa _ rfl rfl (Below.refl _ _)
   ·go_wp2_with fail;exact zaa _ rfl rfl (Below.refl _ _)
   ·obtain ⟨(h4:vals 4=.pointer (some ⟨g,0,none⟩)),_⟩:=hf;simp only [h4];clear h4;go_wp2_with fail;exact zaa _ rfl rfl (Below.refl _ _)
   ·obtain ⟨(h5:vals 5=.pointer (some ⟨g,0,none⟩)),_⟩:=hf;simp only [h5];clear h5;go_wp2_with fail;exact zaa _ rfl rfl (Below.refl _ _)
   ·obtain ⟨(h6:vals 6=.pointer (some ⟨g,9,none⟩)),_⟩:=hf;simp only [h6];clear h6;go_wp2_with (first|(refine zbv rfl 67 (.tmp 68) rfl g 9 rfl _ _ (RG.out u hb) Tryz.underlying67 rfl (by kernel_rfl) ?_));exact zaa _ rfl rfl (Below.refl _ _)
   ·obtain ⟨(h7:vals 7=.agg #[.int .i64 8,.int .i64 3,.int .i64 4,.int .i64 4,.int .i64 262]),_⟩:=hf;simp only [h7];clear h7;go_wp2_with fail;refine (KF.out _).mono ?_;rintro e u2 ⟨rfl,b2⟩;go_wp2_with fail;exact zaa _ rfl rfl b2
   ·obtain ⟨(h3:vals 3=.int .i64 T),(h8:vals 8=.int .i64 357630),_⟩:=hf;simp only [h3,h8];clear h3 h8;go_wp2_with fail;exact zaa _ rfl rfl (Below.refl _ _)
  rintro vals wq hb hall;obtain ⟨_,_,_,_,_,_,_,_,_,(h9:vals 9=.bool false),_⟩:=hall;simp only [h9];clear h9;have HE:=hide (H3.out.next hb);clear hb CT4 RG;go_wp2_with fail;go_end0;refine ⟨rfl,?_⟩;rw [EQ.out.1,EQ.out.2.1,EQ.out.2.2];exact HE.out
def ziY (Y:Nat→Nat→Int):Prop:=(∀j,Y 0 j=0)∧(∀j,Y 2 j=0)∧Y 4 0=0∧Y 5 0=0∧(∀j,Y 10 j=0)
theorem CK.hasP {pc:Nat} {tick wait back:Int} (h:CK w g b v c d bs Y M a p pc f l tick wait back):∃R0 f0 l0 c0,HasP w b v c d bs (cz Y M R0 f0 l0 c0):=by
 obtain ⟨⟨R0,f0,l0,c0,m⟩,_⟩:=h;exact ⟨R0,f0,l0,c0,m.1⟩
theorem CK.reg {pc:Nat} {tick wait back:Int} (h:CK w g b v c d bs Y M a p pc f l tick wait back) (j:Nat) (hj:j<21):w.cell? ⟨b,j,none⟩=some (.int .i64 (Y 0 j)):=by
 obtain ⟨R0,f0,l0,c0,m⟩:=h.hasP;exact m.1.get 0 rfl j hj (a:=j) (by rw [m.isB.off 0 (a:=0) rfl];omega) (by omega)
theorem CK.regs {pc:Nat} {tick wait back:Int} (h:CK w g b v c d bs Y M a p pc f l tick wait back):∃L,HasF 60 w b 9263 (segs L)∧∀j,j<21→segs L (0+j)=iv (Y 0) j:=by
 obtain ⟨R0,f0,l0,c0,m⟩:=h.hasP;exact ⟨_,m.1,fun j hj=>zhk m 0 rfl (a:=0) rfl j hj⟩
theorem CK.tab {pc:Nat} {tick wait back:Int} (h:CK w g b v c d bs Y M a p pc f l tick wait back):∃L,HasF 60 w b 9263 (segs L)∧∀j,j<256→segs L (22+j)=iv (Y 2) j:=by
 obtain ⟨R0,f0,l0,c0,m⟩:=h.hasP;exact ⟨_,m.1,fun j hj=>zhk m 2 rfl (a:=22) rfl j hj⟩
theorem CK.vce {pc:Nat} {tick wait back:Int} (h:CK w g b v c d bs Y M a p pc f l tick wait back):∃L,HasF 60 w b 9263 (segs L)∧∀j,j<514→segs L (8483+j)=iv (Y 10) j:=by
 obtain ⟨R0,f0,l0,c0,m⟩:=h.hasP;exact ⟨_,m.1,fun j hj=>zhk m 10 rfl (a:=8483) rfl j hj⟩
theorem CK.vram {pc:Nat} {tick wait back:Int} (h:CK w g b v c d bs Y M a p pc f l tick wait back):w.cell? ⟨b,21,none⟩=some (.pointer (some ⟨v,0,none⟩))∧∃(m:Nat→Int) (wr rd st lo bu:Int),W13.HasM w v true m wr rd st lo bu:=by
 obtain ⟨R0,f0,l0,c0,m⟩:=h.hasP;exact ⟨m.1.get1 1 rfl (a:=21) (m.isB.off 1 rfl) (by decide),_,_,_,_,_,_,m.2.1⟩
theorem zlW (hp:ziY Y):rowF (iv (Y 0)) 21=R15.rowG 0 (fun _=>0):=by
 rw [←zif];exact zbh fun j _=>by
  unfold iv gF;rw [hp.1 j];split<;>rfl
theorem upZ_id (Y:Nat→Nat→Int) (k:Nat):upZ Y k (Y k)=Y:=funext fun i=>by
 unfold upZ;split
 ·rename_i e;rw [e]
 ·rfl
theorem zzR {pc:Nat} {tick wait back:Int} (h:CK w g b v c d bs Y M a p pc f l tick wait back) (hp:ziY Y) (h3:Y 3=oneV 0):Calls Tryz.prog 88 #[.pointer (some ⟨b,0,none⟩),.int .i64 32,.int .i64 3] w fun e w'=>e=Ending.returned (.tuple #[])∧CK w' g b v c d bs (upZ Y 3 (oneV 32)) M a p pc f l tick wait back∧OnlyE (EG b v g) w w':=by
 have H:=hide h;obtain ⟨L,hL,hg⟩:=h.regs;rw [show (∀j,j<21→segs L (0+j)=iv (Y 0) j)=(∀j,j<21→segs L (0+j)=iv (Y 0) j) from rfl] at hg;have HL:=hide hL;have HG:=hide hg;have KO:=hide (fun u=>R15.on_any 0 (fun _=>0) 3 u);rw [←zlW hp,show (zaV 0 3==1)=false by decide] at KO;have H3:=hide h3;clear h hL hg h3;go_enter Tryz.func88,Tryz.ntmps88
 go_wp2_with (first
  |(refine zaw rfl 32 (.tmp 11) rfl b 0 rfl HL.out 21 (by decide) (iv (Y 0)) HG.out _ Tryz.underlying32 rfl (by kernel_rfl) ?_)
  |(go_at_call 126;refine (KO.out _).mono ?_;rintro e w1 ⟨rfl,b1⟩;have H1:=hide (H.out.next b1);have B1:=hide b1;clear b1 H KO))
 obtain ⟨⟨R0,f0,l0,c0,m⟩,k2,k3,k4⟩:=H1.out;have K2:=hide k2;have K3:=hide k3;have K4:=hide k4;refine (zwV m.1 32 false).mono ?_;rintro e w2 ⟨rfl,p2,o2⟩;have e3:zlt (cz Y M R0 f0 l0 c0) 32 false=cz (upZ Y 3 (oneV 32)) M R0 f0 l0 c0:=by
  unfold zlt;rw [if_neg (by decide),show (cz Y M R0 f0 l0 c0) 3 0=0 by show Y 3 0=0;rw [H3.out];rfl,show bits .or .i64 0 32=32 by decide,zkq 3 _ (by decide) (by decide)];exact upZ_id _ 13
 rw [e3] at p2;have g2:∀k,GZ k (cz (upZ Y 3 (oneV 32)) M R0 f0 l0 c0 k):=by
  rw [←zkq 3 _ (by decide) (by decide)];exact zaJ m.2.2.1 3 _ ⟨by decide,by decide⟩
 have M2:=hide (m.bus p2 o2 g2);have O2:=hide o2;clear m p2 o2 e3 g2 k2 k3 k4;go_wp2_with fail;go_end0;have s:=O2.out.size;refine ⟨rfl,⟨⟨R0,f0,l0,c0,M2.out⟩,O2.out.obj K2.out (fun e=>?_),K3.out,?_⟩,(zei B1.out).trans (zlK O2.out)⟩
 ·have:=K3.out;rcases e with e|e<;>omega
 ·have:=K4.out;omega
theorem zkP {pc:Nat} {tick wait back:Int} (h:CK w g b v c d bs Y M a p pc f l tick wait back) (hp:ziY Y) (h3:Y 3=oneV 0):Calls Tryz.prog 59 #[.pointer (some ⟨b,0,none⟩)] w fun e w'=>e=Ending.returned (.tuple #[])∧CK w' g b v c d bs (upZ Y 3 (oneV 32)) M a p pc f l tick wait back∧OnlyE (EG b v g) w w':=by
 have H:=hide h;have c16:w.cell? ⟨b,16,none⟩=some (.int .i64 0):=by have k:=h.reg 16 (by decide);rw [hp.1] at k;exact k
 have c4:w.cell? ⟨b,279,none⟩=some (.bool false):=by
  obtain ⟨R0,f0,l0,c0,m⟩:=h.hasP;have k:=m.1.get1 4 rfl (a:=279) (m.isB.off 4 rfl) (by decide);rw [show (cz Y M R0 f0 l0 c0) 4 0=0 from hp.2.2.1] at k;exact k
 have KB4:=hide (fun u=>zaZ 0 4 u);rw [show zaV 0 4=0 by decide] at KB4;have KT:=hide (fun (u:World) (hu:CK u g b v c d bs Y M a p pc f l tick wait back)=>zzR hu hp h3);clear h hp h3;go_enter Tryz.func59,Tryz.ntmps59
 go_wp2_with (first
  |(go_at_call 68;refine (KB4.out _).mono ?_;rintro e w1 ⟨rfl,hw⟩;subst w1)
  |(go_at_call 88;refine (KT.out _ H.out).mono ?_;rintro e w2 ⟨rfl,k2,o2⟩;have K2:=hide k2;have O2:=hide o2;clear k2 o2 KT H))
 go_end0;exact ⟨rfl,K2.out,O2.out⟩
theorem CK.back {pc:Nat} {tick wait back:Int} (h:CK w g b v c d bs Y M a p pc f l tick wait back) (x:Int):CK (w.setCell ⟨g,16,none⟩ (.int .i64 x)) g b v c d bs Y M a p pc f l tick wait x:=
 h.own ((But.refl g w).set 16 _) (heap_setCell_same w g 16 _ _ (.int .i64 x) h.2.1)
theorem CK.moved {pc:Nat} {tick wait back:Int} (h:CK w g b v c d bs Y M a p pc f l tick wait back) (h5:Y 5 0=0):w.cell? ⟨b,280,none⟩=some (.bool false)∧w.frozen? ⟨b,280,none⟩=false∧CK (w.setCell ⟨b,280,none⟩ (.bool false)) g b v c d bs Y M a p pc f l tick wait back∧OnlyE (EX b v) w (w.setCell ⟨b,280,none⟩ (.bool false)):=by
 obtain ⟨⟨R0,f0,l0,c0,m⟩,h2,h3,h4⟩:=h;have e5:(XP v c (cz Y M R0 f0 l0 c0))[5]? = some (1,fun _=>Value.bool false):=by
  show some (1,fun _=>Value.bool (isB (Y 5 0)))=_;rw [h5];rfl
 have k:But b w (w.setCell ⟨b,280,none⟩ (.bool false)):=(But.refl b w).set 280 _;have q:=HasX.lay m.1 k 5 e5 (m.1.1.put1 5 e5 (a:=280) (m.1.isB.off 5 rfl) (.bool false)) (by decide) (by decide);rw [zhU e5] at q;have p:HasP (w.setCell ⟨b,280,none⟩ (.bool false)) b v c d bs (cz Y M R0 f0 l0 c0):=q;have o:=zbr (v:=v) k;have s:=o.size;exact ⟨m.1.1.get1 5 e5 (a:=280) (m.1.isB.off 5 rfl) (by decide),m.1.1.frozen 280,⟨⟨R0,f0,l0,c0,m.bus p o m.2.2.1⟩,k.obj h2 h3.1,h3,by omega⟩,o⟩
theorem zmS {pc:Nat} {tick wait back:Int} (h:CK w g b v c d bs Y M a p pc f l tick wait back) (hp:ziY Y):Calls Tryz.prog 57 #[.pointer (some ⟨g,0,none⟩),.int .i64 0] w fun e w'=>e=Ending.returned (.tuple #[])∧CK w' g b v c d bs Y M a p pc f l tick wait 0∧OnlyE (EG b v g) w w':=by
 have H:=hide h;have c9:w.cell? ⟨b,9,none⟩=some (.int .i64 0):=by have k:=h.reg 9 (by decide);rw [hp.1] at k;exact k
 have c8:=h.2.1.at 8 (y:=.pointer (some ⟨b,0,none⟩)) rfl;have c16:=h.2.1.at 16 (y:=.int .i64 back) rfl;have f16:=frozen_of_row w g 16 _ _ h.2.1;have H5:=hide hp.2.2.2.1;clear h hp;go_enter Tryz.func57,Tryz.ntmps57;go_upto_region 3 with fail;refine under_name fun w1 hw1=>?_
 have H1:=hide (show CK w1 g b v c d bs Y M a p pc f l tick wait 0 by rw [hw1];exact H.out.back 0);have O1:=hide (show OnlyE (EG b v g) w w1 by rw [hw1];exact eg_g ((But.refl g w).set 16 _));clear hw1 c8 c9 c16 f16 H;have c8:=H1.out.2.1.at 8 (y:=.pointer (some ⟨b,0,none⟩)) rfl;obtain ⟨cm,fm,_,_⟩:=H1.out.moved H5.out;go_wp2_with fail;go_end0;obtain ⟨_,_,x,o⟩:=H1.out.moved H5.out;exact ⟨rfl,x,O1.out.trans (zlK o)⟩
theorem zwE {pc:Nat} {tick wait back:Int} (h:CK w g b v c d bs Y M a p pc f l tick wait back) (n:Int) (hn:zgX 3 4 n = -1) (n4:¬n=4) (D:Value):Calls Tryz.prog 28 #[.pointer (some ⟨g,0,none⟩),.int .i64 n,D] w fun e w'=>e=Ending.returned (.tuple #[])∧Below w.heap.size w w':=by
 have H:=hide h
 have RG:=hide (zcW h.2.1 9 (#[.int .i64 8,.int .i64 3,.int .i64 4,.int .i64 4,.int .i64 262]:Array Value).toList (by
  intro j y hy
  rcases j with _|_|_|_|_|j<;>first|exact hy|exact absurd hy (by simp)))
 have KS:=hide (fun u=>ziG 8 3 4 4 262 n u (by decide) (by decide));rw [hn] at KS;have c12:=fun (u:World) (k:Below w.heap.size w u)=>(h.next k).2.1.at 12 (y:=.int .i64 4) rfl
 have C12:=hide c12;have e4:(n==4)=false:=by simpa using n4
 clear h hn c12 n4;go_enter Tryz.func28,Tryz.ntmps28
 go_wp2_with (first
  |(refine wpList_load_mid rfl 67 (.tmp 9) rfl g 9 rfl _ _ RG.out Tryz.underlying67 rfl (by kernel_rfl) ?_)
  |(go_at_call 56;refine (KS.out _).mono ?_;rintro e w1 ⟨rfl,b1⟩;have B1:=hide b1;have k12:=C12.out _ b1;clear b1 KS))
 go_end0;exact ⟨rfl,B1.out⟩
theorem ztY {pc:Nat} {tick wait back:Int} (h:CK w g b v c d bs Y M a p pc f l tick wait back) (hp:ziY Y) (h3:Y 3=oneV 0) (D:Value):Calls Tryz.prog 28 #[.pointer (some ⟨g,0,none⟩),.int .i64 4,D] w fun e w'=>e=Ending.returned (.tuple #[])∧CK w' g b v c d bs (upZ Y 3 (oneV 32)) M a p pc f l tick wait back∧OnlyE (EG b v g) w w':=by
 have H:=hide h
 have RG:=hide (zcW h.2.1 9 (#[.int .i64 8,.int .i64 3,.int .i64 4,.int .i64 4,.int .i64 262]:Array Value).toList (by
  intro j y hy
  rcases j with _|_|_|_|_|j<;>first|exact hy|exact absurd hy (by simp)))
 have KS:=hide (fun u=>ziG 8 3 4 4 262 4 u (by decide) (by decide));rw [show zgX 3 4 4 = -1 by decide] at KS;have C12:=hide (fun (u:World) (k:Below w.heap.size w u)=>(h.next k).2.1.at 12 (y:=.int .i64 4) rfl);have C8:=hide (fun (u:World) (k:Below w.heap.size w u)=>(h.next k).2.1.at 8 (y:=.pointer (some ⟨b,0,none⟩)) rfl);have KE:=hide (fun (u:World) (hu:CK u g b v c d bs Y M a p pc f l tick wait back)=>zkP hu hp h3);clear h hp h3;go_enter Tryz.func28,Tryz.ntmps28
 go_wp2_with (first
  |(refine wpList_load_mid rfl 67 (.tmp 9) rfl g 9 rfl _ _ RG.out Tryz.underlying67 rfl (by kernel_rfl) ?_)
  |(go_at_call 56;refine (KS.out _).mono ?_;rintro e w1 ⟨rfl,b1⟩;have B1:=hide b1;have H1:=hide (H.out.next b1);have k12:=C12.out _ b1;have k8:=C8.out _ b1;clear b1 KS H C12 C8)
  |(go_at_call 59;refine (KE.out _ H1.out).mono ?_;rintro e w2 ⟨rfl,x2,o2⟩;have X2:=hide x2;have O2:=hide o2;clear x2 o2 KE))
 go_end0;exact ⟨rfl,X2.out,(zei B1.out).trans O2.out⟩
end Go.Proofs.YtdiidjehdginnaaGreatDoor.L25
