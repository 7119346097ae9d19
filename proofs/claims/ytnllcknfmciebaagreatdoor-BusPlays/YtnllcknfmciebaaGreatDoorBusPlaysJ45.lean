/- The document's own: Write. -/
import Derived.Test.YtnllcknfmciebaaGreatDoorBusPlaysJ39
import Derived.Test.YtnllcknfmciebaaGreatDoorBusPlaysJ13
namespace Go.Proofs.YtnllcknfmciebaaGreatDoor.P22
set_option maxRecDepth 20000
open Go.RowKit
set_option linter.unusedVariables false
set_option maxHeartbeats 1600000 in
theorem rwrite_no (f:Nat→Int) (at_ b:Int) (hv:vB f=false) (w:World):Calls Tryz.prog 53 #[.agg (rowF (iv f) 244),.int .i64 at_,.int .i64 b] w fun e w'=>e=Ending.returned (.agg (rowF (iv f) 244))∧Below w.heap.size w w':=by
 have KV:=hide (fun w=>rvalid_any f w)
 rw [hv] at KV
 clear hv
 go_enter Tryz.func53,Tryz.ntmps53
 go_wp2_with (first
  |(refine wpList_alloced rfl 75 rfl (rowF (iv fun _=>0) 244) zero_R ?_)
  |(refine under_list fun w1 hw1=>?_;obtain ⟨n0,n1,n2,n3⟩:=two_named hw1;have P1:Hid (HasF 75 w1 w.heap.size 244 (iv f)):=hide n0;have Z1:Hid (HasF 75 w1 (w.heap.size+1) 244 (iv fun _=>0)):=hide n1;have B1:=hide n3;clear n0 n1 n2 n3 hw1;refine wpList_load_row rfl 75 (.tmp 3) rfl w.heap.size rfl _ _ _ _ P1.out Tryz.underlying75 rfl (info_R _) ?_)
  |(go_at_call 105;refine (KV.out _).mono ?_;rintro e w2 ⟨rfl,c2⟩;have P2:=hide (P1.out.next c2);have Z2:=hide (Z1.out.next c2);have B2:=hide (bnext B1.out c2);skip;clear c2 P1 Z1 B1)
  |(refine wpList_load_row rfl 75 (.tmp 3) rfl w.heap.size rfl _ _ _ _ P2.out Tryz.underlying75 rfl (info_R _) ?_)
  |(refine wpList_store_row rfl 75 (.tmp 6) (.tmp 11) rfl (w.heap.size+1) _ rfl rfl 75 _ Z2.out (info_R _) (by rw [rowF_size,rowF_size]) (rowF_one _ _) ?_))
 refine bodyPost_ret (results_cell_row rfl _ _ (w.heap.size+1) 75 _ (0,0) _ rfl (setRow_heap _ _ _ _ _ _ Z2.out) Tryz.underlying75 rfl (info_R _)) rfl ?_
 exact ⟨rfl,below_setRow B2.out (Nat.le_succ _) _⟩
set_option maxHeartbeats 1600000 in
theorem rwrite_0 (f:Nat→Int) (b:Int) (w:World) (KV:Hid (∀w:World,Calls Tryz.prog 105 #[.agg (rowF (iv f) 244)] w fun e w'=>e=Ending.returned (.bool true)∧Below w.heap.size w w')):Calls Tryz.prog 53 #[.agg (rowF (iv f) 244),.int .i64 0,.int .i64 b] w fun e w'=>e=Ending.returned (.agg (rowF (iv (wrF f 0 b)) 244))∧Below w.heap.size w w':=by
 obtain ⟨G,hG⟩:∃G,G=wrF f 0 b:=⟨_,rfl⟩
 have HE:Hid (∀u:World,HasF 75 u w.heap.size 244 (iv f)→HasF 75 (u.setCell ⟨w.heap.size,0,none⟩ (.int .i64 (b%8))) w.heap.size 244 (iv G)):=hide (fun u hu=>by rw [hG];rw [wr0_is];exact hu.up _ _)
 rw [←hG]
 clear hG
 have h8:b%256%8=b%8:=by omega
 have t8:Int.tmod (b%256) 8=b%8:=by rw [Int.tmod_eq_emod_of_nonneg (by omega)];omega
 go_enter Tryz.func53,Tryz.ntmps53
 go_wp2_with (first
  |(refine wpList_alloced rfl 75 rfl (rowF (iv fun _=>0) 244) zero_R ?_)
  |(refine under_list fun w1 hw1=>?_;obtain ⟨n0,n1,n2,n3⟩:=two_named hw1;have P1:Hid (HasF 75 w1 w.heap.size 244 (iv f)):=hide n0;have Z1:Hid (HasF 75 w1 (w.heap.size+1) 244 (iv fun _=>0)):=hide n1;have B1:=hide n3;clear n0 n1 n2 n3 hw1;refine wpList_load_row rfl 75 (.tmp 3) rfl w.heap.size rfl _ _ _ _ P1.out Tryz.underlying75 rfl (info_R _) ?_)
  |(go_at_call 105;refine (KV.out _).mono ?_;rintro e w2 ⟨rfl,c2⟩;have P2:=hide (P1.out.next c2);have Z2:=hide (Z1.out.next c2);have B2:=hide (bnext B1.out c2);have cq:=P2.out.int 0 (by decide);have zq:=P2.out.frozen 0;have cs:=P2.out.int 0 (by decide);clear c2 P1 Z1 B1)
  |(go_at_call 49;refine (rbyte_any _ _).mono ?_;rintro e w' ⟨rfl,hw⟩;subst w')
  |(refine under_list fun w5 hw5=>?_;have P5:Hid (HasF 75 w5 w.heap.size 244 (iv G)):=hide (by rw [hw5];exact HE.out _ P2.out);have Z5:Hid (HasF 75 w5 (w.heap.size+1) 244 (iv fun _=>0)):=hide (by rw [hw5];exact Z2.out.other _ _ (Nat.succ_ne_self _));have B5:Hid (Below w.heap.size w w5):=hide (by rw [hw5];exact Below.setCell (p:=⟨w.heap.size,0,none⟩) B2.out (Nat.le_refl _) _);have c5:=P5.out.int 0 (by decide);clear hw5 P2 Z2 B2)
  |(refine wpList_load_row rfl 75 (.tmp 3) rfl w.heap.size rfl _ _ _ _ P5.out Tryz.underlying75 rfl (info_R _) ?_)
  |(refine wpList_store_row rfl 75 (.tmp 6) (.tmp 43) rfl (w.heap.size+1) _ rfl rfl 75 _ Z5.out (info_R _) (by rw [rowF_size,rowF_size]) (rowF_one _ _) ?_))
 all_goals
  refine bodyPost_ret (results_cell_row rfl _ _ (w.heap.size+1) 75 _ (0,0) _ rfl (setRow_heap _ _ _ _ _ _ Z5.out) Tryz.underlying75 rfl (info_R _)) rfl ?_
  exact ⟨rfl,below_setRow B5.out (Nat.le_succ _) _⟩
set_option maxHeartbeats 1600000 in
theorem rwrite_1 (f:Nat→Int) (b:Int) (w:World) (KV:Hid (∀w:World,Calls Tryz.prog 105 #[.agg (rowF (iv f) 244)] w fun e w'=>e=Ending.returned (.bool true)∧Below w.heap.size w w')):Calls Tryz.prog 53 #[.agg (rowF (iv f) 244),.int .i64 1,.int .i64 b] w fun e w'=>e=Ending.returned (.agg (rowF (iv (wrF f 1 b)) 244))∧Below w.heap.size w w':=by
 obtain ⟨G,hG⟩:∃G,G=wrF f 1 b:=⟨_,rfl⟩
 have HE:Hid (∀u:World,HasF 75 u w.heap.size 244 (iv f)→HasF 75 (u.setCell ⟨w.heap.size,1,none⟩ (.int .i64 (b%256))) w.heap.size 244 (iv G)):=hide (fun u hu=>by rw [hG];exact hu.up _ _)
 rw [←hG]
 clear hG
 have h8:b%256%8=b%8:=by omega
 have t8:Int.tmod (b%256) 8=b%8:=by rw [Int.tmod_eq_emod_of_nonneg (by omega)];omega
 go_enter Tryz.func53,Tryz.ntmps53
 go_wp2_with (first
  |(refine wpList_alloced rfl 75 rfl (rowF (iv fun _=>0) 244) zero_R ?_)
  |(refine under_list fun w1 hw1=>?_;obtain ⟨n0,n1,n2,n3⟩:=two_named hw1;have P1:Hid (HasF 75 w1 w.heap.size 244 (iv f)):=hide n0;have Z1:Hid (HasF 75 w1 (w.heap.size+1) 244 (iv fun _=>0)):=hide n1;have B1:=hide n3;clear n0 n1 n2 n3 hw1;refine wpList_load_row rfl 75 (.tmp 3) rfl w.heap.size rfl _ _ _ _ P1.out Tryz.underlying75 rfl (info_R _) ?_)
  |(go_at_call 105;refine (KV.out _).mono ?_;rintro e w2 ⟨rfl,c2⟩;have P2:=hide (P1.out.next c2);have Z2:=hide (Z1.out.next c2);have B2:=hide (bnext B1.out c2);have cq:=P2.out.int 1 (by decide);have zq:=P2.out.frozen 1;have cs:=P2.out.int 0 (by decide);clear c2 P1 Z1 B1)
  |(go_at_call 49;refine (rbyte_any _ _).mono ?_;rintro e w' ⟨rfl,hw⟩;subst w')
  |(refine under_list fun w5 hw5=>?_;have P5:Hid (HasF 75 w5 w.heap.size 244 (iv G)):=hide (by rw [hw5];exact HE.out _ P2.out);have Z5:Hid (HasF 75 w5 (w.heap.size+1) 244 (iv fun _=>0)):=hide (by rw [hw5];exact Z2.out.other _ _ (Nat.succ_ne_self _));have B5:Hid (Below w.heap.size w w5):=hide (by rw [hw5];exact Below.setCell (p:=⟨w.heap.size,1,none⟩) B2.out (Nat.le_refl _) _);have c5:=P5.out.int 0 (by decide);clear hw5 P2 Z2 B2)
  |(refine wpList_load_row rfl 75 (.tmp 3) rfl w.heap.size rfl _ _ _ _ P5.out Tryz.underlying75 rfl (info_R _) ?_)
  |(refine wpList_store_row rfl 75 (.tmp 6) (.tmp 43) rfl (w.heap.size+1) _ rfl rfl 75 _ Z5.out (info_R _) (by rw [rowF_size,rowF_size]) (rowF_one _ _) ?_))
 all_goals
  refine bodyPost_ret (results_cell_row rfl _ _ (w.heap.size+1) 75 _ (0,0) _ rfl (setRow_heap _ _ _ _ _ _ Z5.out) Tryz.underlying75 rfl (info_R _)) rfl ?_
  exact ⟨rfl,below_setRow B5.out (Nat.le_succ _) _⟩
set_option maxHeartbeats 1600000 in
theorem rwrite_8 (f:Nat→Int) (b:Int) (w:World) (KV:Hid (∀w:World,Calls Tryz.prog 105 #[.agg (rowF (iv f) 244)] w fun e w'=>e=Ending.returned (.bool true)∧Below w.heap.size w w')):Calls Tryz.prog 53 #[.agg (rowF (iv f) 244),.int .i64 8,.int .i64 b] w fun e w'=>e=Ending.returned (.agg (rowF (iv (wrF f 8 b)) 244))∧Below w.heap.size w w':=by
 obtain ⟨G,hG⟩:∃G,G=wrF f 8 b:=⟨_,rfl⟩
 have HE:Hid (∀u:World,HasF 75 u w.heap.size 244 (iv f)→HasF 75 (u.setCell ⟨w.heap.size,2,none⟩ (.int .i64 (b%256))) w.heap.size 244 (iv G)):=hide (fun u hu=>by rw [hG];exact hu.up _ _)
 rw [←hG]
 clear hG
 have h8:b%256%8=b%8:=by omega
 have t8:Int.tmod (b%256) 8=b%8:=by rw [Int.tmod_eq_emod_of_nonneg (by omega)];omega
 go_enter Tryz.func53,Tryz.ntmps53
 go_wp2_with (first
  |(refine wpList_alloced rfl 75 rfl (rowF (iv fun _=>0) 244) zero_R ?_)
  |(refine under_list fun w1 hw1=>?_;obtain ⟨n0,n1,n2,n3⟩:=two_named hw1;have P1:Hid (HasF 75 w1 w.heap.size 244 (iv f)):=hide n0;have Z1:Hid (HasF 75 w1 (w.heap.size+1) 244 (iv fun _=>0)):=hide n1;have B1:=hide n3;clear n0 n1 n2 n3 hw1;refine wpList_load_row rfl 75 (.tmp 3) rfl w.heap.size rfl _ _ _ _ P1.out Tryz.underlying75 rfl (info_R _) ?_)
  |(go_at_call 105;refine (KV.out _).mono ?_;rintro e w2 ⟨rfl,c2⟩;have P2:=hide (P1.out.next c2);have Z2:=hide (Z1.out.next c2);have B2:=hide (bnext B1.out c2);have cq:=P2.out.int 2 (by decide);have zq:=P2.out.frozen 2;have cs:=P2.out.int 0 (by decide);clear c2 P1 Z1 B1)
  |(go_at_call 49;refine (rbyte_any _ _).mono ?_;rintro e w' ⟨rfl,hw⟩;subst w')
  |(refine under_list fun w5 hw5=>?_;have P5:Hid (HasF 75 w5 w.heap.size 244 (iv G)):=hide (by rw [hw5];exact HE.out _ P2.out);have Z5:Hid (HasF 75 w5 (w.heap.size+1) 244 (iv fun _=>0)):=hide (by rw [hw5];exact Z2.out.other _ _ (Nat.succ_ne_self _));have B5:Hid (Below w.heap.size w w5):=hide (by rw [hw5];exact Below.setCell (p:=⟨w.heap.size,2,none⟩) B2.out (Nat.le_refl _) _);have c5:=P5.out.int 0 (by decide);clear hw5 P2 Z2 B2)
  |(refine wpList_load_row rfl 75 (.tmp 3) rfl w.heap.size rfl _ _ _ _ P5.out Tryz.underlying75 rfl (info_R _) ?_)
  |(refine wpList_store_row rfl 75 (.tmp 6) (.tmp 43) rfl (w.heap.size+1) _ rfl rfl 75 _ Z5.out (info_R _) (by rw [rowF_size,rowF_size]) (rowF_one _ _) ?_))
 all_goals
  refine bodyPost_ret (results_cell_row rfl _ _ (w.heap.size+1) 75 _ (0,0) _ rfl (setRow_heap _ _ _ _ _ _ Z5.out) Tryz.underlying75 rfl (info_R _)) rfl ?_
  exact ⟨rfl,below_setRow B5.out (Nat.le_succ _) _⟩
set_option maxHeartbeats 1600000 in
theorem rwrite_9 (f:Nat→Int) (b:Int) (w:World) (KV:Hid (∀w:World,Calls Tryz.prog 105 #[.agg (rowF (iv f) 244)] w fun e w'=>e=Ending.returned (.bool true)∧Below w.heap.size w w')):Calls Tryz.prog 53 #[.agg (rowF (iv f) 244),.int .i64 9,.int .i64 b] w fun e w'=>e=Ending.returned (.agg (rowF (iv (wrF f 9 b)) 244))∧Below w.heap.size w w':=by
 obtain ⟨G,hG⟩:∃G,G=wrF f 9 b:=⟨_,rfl⟩
 have HE:Hid (∀u:World,HasF 75 u w.heap.size 244 (iv f)→HasF 75 (u.setCell ⟨w.heap.size,3,none⟩ (.int .i64 (b%256))) w.heap.size 244 (iv G)):=hide (fun u hu=>by rw [hG];exact hu.up _ _)
 rw [←hG]
 clear hG
 have h8:b%256%8=b%8:=by omega
 have t8:Int.tmod (b%256) 8=b%8:=by rw [Int.tmod_eq_emod_of_nonneg (by omega)];omega
 go_enter Tryz.func53,Tryz.ntmps53
 go_wp2_with (first
  |(refine wpList_alloced rfl 75 rfl (rowF (iv fun _=>0) 244) zero_R ?_)
  |(refine under_list fun w1 hw1=>?_;obtain ⟨n0,n1,n2,n3⟩:=two_named hw1;have P1:Hid (HasF 75 w1 w.heap.size 244 (iv f)):=hide n0;have Z1:Hid (HasF 75 w1 (w.heap.size+1) 244 (iv fun _=>0)):=hide n1;have B1:=hide n3;clear n0 n1 n2 n3 hw1;refine wpList_load_row rfl 75 (.tmp 3) rfl w.heap.size rfl _ _ _ _ P1.out Tryz.underlying75 rfl (info_R _) ?_)
  |(go_at_call 105;refine (KV.out _).mono ?_;rintro e w2 ⟨rfl,c2⟩;have P2:=hide (P1.out.next c2);have Z2:=hide (Z1.out.next c2);have B2:=hide (bnext B1.out c2);have cq:=P2.out.int 3 (by decide);have zq:=P2.out.frozen 3;have cs:=P2.out.int 0 (by decide);clear c2 P1 Z1 B1)
  |(go_at_call 49;refine (rbyte_any _ _).mono ?_;rintro e w' ⟨rfl,hw⟩;subst w')
  |(refine under_list fun w5 hw5=>?_;have P5:Hid (HasF 75 w5 w.heap.size 244 (iv G)):=hide (by rw [hw5];exact HE.out _ P2.out);have Z5:Hid (HasF 75 w5 (w.heap.size+1) 244 (iv fun _=>0)):=hide (by rw [hw5];exact Z2.out.other _ _ (Nat.succ_ne_self _));have B5:Hid (Below w.heap.size w w5):=hide (by rw [hw5];exact Below.setCell (p:=⟨w.heap.size,3,none⟩) B2.out (Nat.le_refl _) _);have c5:=P5.out.int 0 (by decide);clear hw5 P2 Z2 B2)
  |(refine wpList_load_row rfl 75 (.tmp 3) rfl w.heap.size rfl _ _ _ _ P5.out Tryz.underlying75 rfl (info_R _) ?_)
  |(refine wpList_store_row rfl 75 (.tmp 6) (.tmp 43) rfl (w.heap.size+1) _ rfl rfl 75 _ Z5.out (info_R _) (by rw [rowF_size,rowF_size]) (rowF_one _ _) ?_))
 all_goals
  refine bodyPost_ret (results_cell_row rfl _ _ (w.heap.size+1) 75 _ (0,0) _ rfl (setRow_heap _ _ _ _ _ _ Z5.out) Tryz.underlying75 rfl (info_R _)) rfl ?_
  exact ⟨rfl,below_setRow B5.out (Nat.le_succ _) _⟩
set_option maxHeartbeats 1600000 in
theorem rwrite_none (f:Nat→Int) (b:Int) (w:World) (KV:Hid (∀w:World,Calls Tryz.prog 105 #[.agg (rowF (iv f) 244)] w fun e w'=>e=Ending.returned (.bool true)∧Below w.heap.size w w')) (at_:Int) (h0:¬at_=0) (h1:¬at_=1) (h8:¬at_=8) (h9:¬at_=9) (h:5<f 0∨at_<2∨7<at_) (hq:wrF f at_ b=f):Calls Tryz.prog 53 #[.agg (rowF (iv f) 244),.int .i64 at_,.int .i64 b] w fun e w'=>e=Ending.returned (.agg (rowF (iv (wrF f at_ b)) 244))∧Below w.heap.size w w':=by
 rw [hq]
 clear hq
 obtain ⟨sl,hsl⟩:∃x,f 0=x:=⟨_,rfl⟩
 rw [hsl] at h
 by_cases k0:5<sl
 ·
  go_enter Tryz.func53,Tryz.ntmps53
  go_wp2_with (first
   |(refine wpList_alloced rfl 75 rfl (rowF (iv fun _=>0) 244) zero_R ?_)
   |(refine under_list fun w1 hw1=>?_;obtain ⟨n0,n1,n2,n3⟩:=two_named hw1;have P1:Hid (HasF 75 w1 w.heap.size 244 (iv f)):=hide n0;have Z1:Hid (HasF 75 w1 (w.heap.size+1) 244 (iv fun _=>0)):=hide n1;have B1:=hide n3;clear n0 n1 n2 n3 hw1;refine wpList_load_row rfl 75 (.tmp 3) rfl w.heap.size rfl _ _ _ _ P1.out Tryz.underlying75 rfl (info_R _) ?_)
   |(go_at_call 105;refine (KV.out _).mono ?_;rintro e w2 ⟨rfl,c2⟩;have P2:=hide (P1.out.next c2);have Z2:=hide (Z1.out.next c2);have B2:=hide (bnext B1.out c2);have cs:=P2.out.int 0 (by decide);rw [hsl] at cs;clear c2 P1 Z1 B1)
   |(go_at_call 49;refine (rbyte_any _ _).mono ?_;rintro e w' ⟨rfl,hw⟩;subst w')
   |(refine wpList_load_row rfl 75 (.tmp 3) rfl w.heap.size rfl _ _ _ _ P2.out Tryz.underlying75 rfl (info_R _) ?_)
   |(refine wpList_store_row rfl 75 (.tmp 6) (.tmp 43) rfl (w.heap.size+1) _ rfl rfl 75 _ Z2.out (info_R _) (by rw [rowF_size,rowF_size]) (rowF_one _ _) ?_))
  all_goals
   refine bodyPost_ret (results_cell_row rfl _ _ (w.heap.size+1) 75 _ (0,0) _ rfl (setRow_heap _ _ _ _ _ _ Z2.out) Tryz.underlying75 rfl (info_R _)) rfl ?_
   exact ⟨rfl,below_setRow B2.out (Nat.le_succ _) _⟩
 ·by_cases k1:at_<2
  ·
   go_enter Tryz.func53,Tryz.ntmps53
   go_wp2_with (first
    |(refine wpList_alloced rfl 75 rfl (rowF (iv fun _=>0) 244) zero_R ?_)
    |(refine under_list fun w1 hw1=>?_;obtain ⟨n0,n1,n2,n3⟩:=two_named hw1;have P1:Hid (HasF 75 w1 w.heap.size 244 (iv f)):=hide n0;have Z1:Hid (HasF 75 w1 (w.heap.size+1) 244 (iv fun _=>0)):=hide n1;have B1:=hide n3;clear n0 n1 n2 n3 hw1;refine wpList_load_row rfl 75 (.tmp 3) rfl w.heap.size rfl _ _ _ _ P1.out Tryz.underlying75 rfl (info_R _) ?_)
    |(go_at_call 105;refine (KV.out _).mono ?_;rintro e w2 ⟨rfl,c2⟩;have P2:=hide (P1.out.next c2);have Z2:=hide (Z1.out.next c2);have B2:=hide (bnext B1.out c2);have cs:=P2.out.int 0 (by decide);rw [hsl] at cs;clear c2 P1 Z1 B1)
    |(go_at_call 49;refine (rbyte_any _ _).mono ?_;rintro e w' ⟨rfl,hw⟩;subst w')
    |(refine wpList_load_row rfl 75 (.tmp 3) rfl w.heap.size rfl _ _ _ _ P2.out Tryz.underlying75 rfl (info_R _) ?_)
    |(refine wpList_store_row rfl 75 (.tmp 6) (.tmp 43) rfl (w.heap.size+1) _ rfl rfl 75 _ Z2.out (info_R _) (by rw [rowF_size,rowF_size]) (rowF_one _ _) ?_))
   all_goals
    refine bodyPost_ret (results_cell_row rfl _ _ (w.heap.size+1) 75 _ (0,0) _ rfl (setRow_heap _ _ _ _ _ _ Z2.out) Tryz.underlying75 rfl (info_R _)) rfl ?_
    exact ⟨rfl,below_setRow B2.out (Nat.le_succ _) _⟩
  ·have k2:7<at_:=by omega
   go_enter Tryz.func53,Tryz.ntmps53
   go_wp2_with (first
    |(refine wpList_alloced rfl 75 rfl (rowF (iv fun _=>0) 244) zero_R ?_)
    |(refine under_list fun w1 hw1=>?_;obtain ⟨n0,n1,n2,n3⟩:=two_named hw1;have P1:Hid (HasF 75 w1 w.heap.size 244 (iv f)):=hide n0;have Z1:Hid (HasF 75 w1 (w.heap.size+1) 244 (iv fun _=>0)):=hide n1;have B1:=hide n3;clear n0 n1 n2 n3 hw1;refine wpList_load_row rfl 75 (.tmp 3) rfl w.heap.size rfl _ _ _ _ P1.out Tryz.underlying75 rfl (info_R _) ?_)
    |(go_at_call 105;refine (KV.out _).mono ?_;rintro e w2 ⟨rfl,c2⟩;have P2:=hide (P1.out.next c2);have Z2:=hide (Z1.out.next c2);have B2:=hide (bnext B1.out c2);have cs:=P2.out.int 0 (by decide);rw [hsl] at cs;clear c2 P1 Z1 B1)
    |(go_at_call 49;refine (rbyte_any _ _).mono ?_;rintro e w' ⟨rfl,hw⟩;subst w')
    |(refine wpList_load_row rfl 75 (.tmp 3) rfl w.heap.size rfl _ _ _ _ P2.out Tryz.underlying75 rfl (info_R _) ?_)
    |(refine wpList_store_row rfl 75 (.tmp 6) (.tmp 43) rfl (w.heap.size+1) _ rfl rfl 75 _ Z2.out (info_R _) (by rw [rowF_size,rowF_size]) (rowF_one _ _) ?_))
   all_goals
    refine bodyPost_ret (results_cell_row rfl _ _ (w.heap.size+1) 75 _ (0,0) _ rfl (setRow_heap _ _ _ _ _ _ Z2.out) Tryz.underlying75 rfl (info_R _)) rfl ?_
    exact ⟨rfl,below_setRow B2.out (Nat.le_succ _) _⟩
end Go.Proofs.YtnllcknfmciebaaGreatDoor.P22
