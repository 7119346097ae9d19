/- The document's own: a write to a channel. -/
import Derived.Test.YtnllcknfmciebaaGreatDoorBusPlaysJ45
import Derived.Test.YtnllcknfmciebaaGreatDoorBusPlaysJ13
namespace Go.Proofs.YtnllcknfmciebaaGreatDoor.P22
set_option maxRecDepth 20000
open Go.RowKit
set_option linter.unusedVariables false
theorem chan_backB {f G cF:Nat→Int} {k:Nat} (h1:∀j,j<40→G (4+k*40+j)=cF j) (h2:∀i,i<4+k*40∨4+k*40+40≤i→G i=f i):∀i,i<244→(if 4+k*40≤i∧i<4+k*40+40 then iv cF (i-(4+k*40)) else iv f i)=iv G i:=fun i _=>by
 unfold iv
 by_cases h:4+k*40≤i∧i<4+k*40+40
 ·rw [if_pos h,←h1 _ (by omega),show 4+k*40+(i-(4+k*40))=i by omega]
 ·rw [if_neg h,h2 i (by omega)]
theorem up_chB (f:Nat→Int) (k m:Nat) (v:Int) (j:Nat):up f (4+k*40+m) v (4+k*40+j)=up (ch f k) m v j:=by
 unfold up ch
 by_cases h:j=m
 ·rw [if_pos h,if_pos (by omega)]
 ·rw [if_neg h,if_neg (by omega)]
theorem up2_chB (f:Nat→Int) (k m n:Nat) (u v:Int) (j:Nat):up (up f (4+k*40+m) u) (4+k*40+n) v (4+k*40+j)=up (up (ch f k) m u) n v j:=by
 unfold up ch
 by_cases h:j=n
 ·rw [if_pos h,if_pos (by omega)]
 ·rw [if_neg h,if_neg (by omega)]
  by_cases h2:j=m
  ·rw [if_pos h2,if_pos (by omega)]
  ·rw [if_neg h2,if_neg (by omega)]
set_option maxHeartbeats 1600000 in
theorem rch_5 (f:Nat→Int) (b B:Int) (w:World) (KV:Hid (∀w:World,Calls Tryz.prog 105 #[.agg (rowF (iv f) 244)] w fun e w'=>e=Ending.returned (.bool true)∧Below w.heap.size w w')) (KB:Hid (∀w:World,Calls Tryz.prog 49 #[.int .i64 b] w fun e w'=>e=Ending.returned (.int .i64 B)∧w'=w)) (b0:0≤B) (b1:B≤255) (k:Nat) (hk:f 0=(k:Int)) (hk6:k<6) (oc:okC (ch f k)):Calls Tryz.prog 53 #[.agg (rowF (iv f) 244),.int .i64 5,.int .i64 b] w fun e w'=>e=Ending.returned (.agg (rowF (iv (chW f k 5 B)) 244))∧Below w.heap.size w w':=by
 obtain ⟨x0,x1,x2,x3,x4,x5,x6,x7,x8⟩:=oc
 have HG:Hid (∀i,i<244→(if 4+k*40≤i∧i<4+k*40+40 then iv (up (ch f k) 2 B) (i-(4+k*40)) else iv f i)=iv (chW f k 5 B) i):=hide (chan_backB (fun j hj=>by exact up_chB f k 2 _ j) (fun i hi=>chW_other f k 5 B ⟨x4.1,x4.2⟩ i hi))
 obtain ⟨G,hG⟩:∃G,chW f k 5 B=G:=⟨_,rfl⟩
 rw [hG] at HG ⊢
 clear hG
 go_enter Tryz.func53,Tryz.ntmps53
 go_wp2_with (first
  |(refine wpList_alloced rfl 75 rfl (rowF (iv fun _=>0) 244) zero_R ?_)
  |(refine under_list fun w1 hw1=>?_;obtain ⟨n0,n1,n2,n3⟩:=two_named hw1;have P1:Hid (HasF 75 w1 w.heap.size 244 (iv f)):=hide n0;have Z1:Hid (HasF 75 w1 (w.heap.size+1) 244 (iv fun _=>0)):=hide n1;have B1:=hide n3;clear n0 n1 n2 n3 hw1;refine wpList_load_row rfl 75 (.tmp 3) rfl w.heap.size rfl _ _ _ _ P1.out Tryz.underlying75 rfl (info_R _) ?_)
  |(go_at_call 105;refine (KV.out _).mono ?_;rintro e w2 ⟨rfl,c2⟩;have P2:=hide (P1.out.next c2);have Z2:=hide (Z1.out.next c2);have B2:=hide (bnext B1.out c2);have cs:=P2.out.int 0 (by decide);rw [hk] at cs;clear c2 P1 Z1 B1)
  |(go_at_call 49;refine (KB.out _).mono ?_;rintro e w' ⟨rfl,hw⟩;subst w')
  |(refine wpList_load_ints rfl 72 (.tmp 47) rfl w.heap.size (4+k*40) rfl P2.out 40 (by omega) _ Tryz.underlying72 rfl info_D40 ?_)
  |(refine wpList_alloced rfl 72 rfl (rowF (iv fun _=>0) 40) zero_D ?_)
  |(refine wpList_store_row rfl 72 (.tmp 7) (.tmp 48) rfl w2.heap.size (rowF (iv (ch f k)) 40) (by simp [Act.eval,Act.put]) rfl 72 _ (hasF_new _ _ _ _) (info_D _) (by rw [rowF_size,rowF_size]) (rowF_one _ _) ?_;refine under_list fun w3 hh=>?_;have C3:Hid (HasF 72 w3 w2.heap.size 40 (iv (ch f k))):=hide (by rw [hh];exact setRow_heap _ _ _ _ _ _ (hasF_new _ _ _ _));have W3:Below w2.heap.size w2 w3:=(by rw [hh];exact below_setRow ((Below.refl _ _).alloc (Nat.le_refl _) _) (Nat.le_refl _) _);have P3:=hide (P2.out.next W3);have Z3:=hide (Z2.out.next W3);have B3:=hide (bnext B2.out W3);have NS:Hid (w.heap.size≠w2.heap.size):=hide (types_two P3.out C3.out (by decide));have NZ:Hid (w.heap.size+1≠w2.heap.size):=hide (types_two Z3.out C3.out (by decide));have LG:Hid (w.heap.size≤w2.heap.size):=hide B2.out.size;have cs3:=P3.out.int 0 (by decide);rw [hk] at cs3;have yy:=C3.out.int 2 (by decide);have zz:=C3.out.frozen 2;clear hh W3 P2 Z2 B2 cs)
  |(refine under_list fun w4 hh=>?_;have C4:Hid (HasF 72 w4 w2.heap.size 40 (iv (up (ch f k) 2 B))):=hide (by rw [hh];exact C3.out.up _ _);have P4:Hid (HasF 75 w4 w.heap.size 244 (iv f)):=hide (by rw [hh];exact P3.out.other _ _ NS.out);have Z4:Hid (HasF 75 w4 (w.heap.size+1) 244 (iv fun _=>0)):=hide (by rw [hh];exact Z3.out.other _ _ NZ.out);have B4:Hid (Below w.heap.size w w4):=hide (by rw [hh];exact Below.setCell (p:=⟨w2.heap.size,2,none⟩) B3.out LG.out _);have cs4:=P4.out.int 0 (by decide);rw [hk] at cs4;clear hh C3 P3 Z3 B3 cs3)
  |(refine wpList_load_row rfl 72 (.tmp 7) rfl w2.heap.size rfl _ _ _ _ C4.out Tryz.underlying72 rfl (info_D _) ?_)
  |(refine wpList_store_part rfl 72 (.tmp 113) (.tmp 111) rfl w.heap.size (4+k*40) 40 (iv (up (ch f k) 2 B)) rfl rfl P4.out (by omega) info_D40 (fun _ _=>rfl) ?_;refine under_list fun w5 hh=>?_;have b5:But w.heap.size w4 w5:=(by rw [hh];exact But.cells _ _ _ (But.refl _ _));have P5:Hid (HasF 75 w5 w.heap.size 244 (iv G)):=hide (by rw [hh];exact (P4.out.cells _ _ _).ext HG.out);have Z5:=hide (b5.keep Z4.out (Nat.succ_ne_self _));have B5:=hide (bbut B4.out b5 (Nat.le_refl _) (Nat.le_refl _));clear hh b5 C4 P4 Z4 B4 cs4)
  |(refine wpList_load_row rfl 75 (.tmp 3) rfl w.heap.size rfl _ _ _ _ P5.out Tryz.underlying75 rfl (info_R _) ?_)
  |(refine wpList_store_row rfl 75 (.tmp 6) (.tmp 114) rfl (w.heap.size+1) _ rfl rfl 75 _ Z5.out (info_R _) (by rw [rowF_size,rowF_size]) (rowF_one _ _) ?_))
 refine bodyPost_ret (results_cell_row rfl _ _ (w.heap.size+1) 75 _ (0,0) _ rfl (setRow_heap _ _ _ _ _ _ Z5.out) Tryz.underlying75 rfl (info_R _)) rfl ?_
 exact ⟨rfl,below_setRow B5.out (Nat.le_succ _) _⟩
set_option maxHeartbeats 1600000 in
theorem rch_6d (f:Nat→Int) (b B:Int) (w:World) (KV:Hid (∀w:World,Calls Tryz.prog 105 #[.agg (rowF (iv f) 244)] w fun e w'=>e=Ending.returned (.bool true)∧Below w.heap.size w w')) (KB:Hid (∀w:World,Calls Tryz.prog 49 #[.int .i64 b] w fun e w'=>e=Ending.returned (.int .i64 B)∧w'=w)) (b0:0≤B) (b1:B≤255) (k:Nat) (hk:f 0=(k:Int)) (hk6:k<6) (oc:okC (ch f k)) (h:ch f k 1/64%2=1):Calls Tryz.prog 53 #[.agg (rowF (iv f) 244),.int .i64 6,.int .i64 b] w fun e w'=>e=Ending.returned (.agg (rowF (iv (chW f k 6 B)) 244))∧Below w.heap.size w w':=by
 obtain ⟨x0,x1,x2,x3,x4,x5,x6,x7,x8⟩:=oc
 have q1:Int.tdiv (ch f k 1) 64=ch f k 1/64:=Int.tdiv_eq_ediv_of_nonneg (by omega)
 have q2:Int.tmod (ch f k 1/64) 2=1:=by rw [Int.tmod_eq_emod_of_nonneg (by omega)];exact h
 have q3:Int.tmod B 32=B%32:=Int.tmod_eq_emod_of_nonneg (by omega)
 have HG:Hid (∀i,i<244→(if 4+k*40≤i∧i<4+k*40+40 then iv (up (ch f k) 39 (B%32)) (i-(4+k*40)) else iv f i)=iv (chW f k 6 B) i):=hide (chan_backB (fun j hj=>by show takeF f k (B%32) _=_;unfold takeF;rw [if_pos h];exact up_chB f k 39 _ j) (fun i hi=>chW_other f k 6 B ⟨x4.1,x4.2⟩ i hi))
 obtain ⟨G,hG⟩:∃G,chW f k 6 B=G:=⟨_,rfl⟩
 rw [hG] at HG ⊢
 clear hG
 go_enter Tryz.func53,Tryz.ntmps53
 go_wp2_with (first
  |(refine wpList_alloced rfl 75 rfl (rowF (iv fun _=>0) 244) zero_R ?_)
  |(refine under_list fun w1 hw1=>?_;obtain ⟨n0,n1,n2,n3⟩:=two_named hw1;have P1:Hid (HasF 75 w1 w.heap.size 244 (iv f)):=hide n0;have Z1:Hid (HasF 75 w1 (w.heap.size+1) 244 (iv fun _=>0)):=hide n1;have B1:=hide n3;clear n0 n1 n2 n3 hw1;refine wpList_load_row rfl 75 (.tmp 3) rfl w.heap.size rfl _ _ _ _ P1.out Tryz.underlying75 rfl (info_R _) ?_)
  |(go_at_call 105;refine (KV.out _).mono ?_;rintro e w2 ⟨rfl,c2⟩;have P2:=hide (P1.out.next c2);have Z2:=hide (Z1.out.next c2);have B2:=hide (bnext B1.out c2);have cs:=P2.out.int 0 (by decide);rw [hk] at cs;clear c2 P1 Z1 B1)
  |(go_at_call 49;refine (KB.out _).mono ?_;rintro e w' ⟨rfl,hw⟩;subst w')
  |(refine wpList_load_ints rfl 72 (.tmp 47) rfl w.heap.size (4+k*40) rfl P2.out 40 (by omega) _ Tryz.underlying72 rfl info_D40 ?_)
  |(refine wpList_alloced rfl 72 rfl (rowF (iv fun _=>0) 40) zero_D ?_)
  |(refine wpList_store_row rfl 72 (.tmp 7) (.tmp 48) rfl w2.heap.size (rowF (iv (ch f k)) 40) (by simp [Act.eval,Act.put]) rfl 72 _ (hasF_new _ _ _ _) (info_D _) (by rw [rowF_size,rowF_size]) (rowF_one _ _) ?_;refine under_list fun w3 hh=>?_;have C3:Hid (HasF 72 w3 w2.heap.size 40 (iv (ch f k))):=hide (by rw [hh];exact setRow_heap _ _ _ _ _ _ (hasF_new _ _ _ _));have W3:Below w2.heap.size w2 w3:=(by rw [hh];exact below_setRow ((Below.refl _ _).alloc (Nat.le_refl _) _) (Nat.le_refl _) _);have P3:=hide (P2.out.next W3);have Z3:=hide (Z2.out.next W3);have B3:=hide (bnext B2.out W3);have NS:Hid (w.heap.size≠w2.heap.size):=hide (types_two P3.out C3.out (by decide));have NZ:Hid (w.heap.size+1≠w2.heap.size):=hide (types_two Z3.out C3.out (by decide));have LG:Hid (w.heap.size≤w2.heap.size):=hide B2.out.size;have cs3:=P3.out.int 0 (by decide);rw [hk] at cs3;have yy:=C3.out.int 39 (by decide);have zz:=C3.out.frozen 39;have y1:=C3.out.int 1 (by decide);clear hh W3 P2 Z2 B2 cs)
  |(refine under_list fun w4 hh=>?_;have C4:Hid (HasF 72 w4 w2.heap.size 40 (iv (up (ch f k) 39 (B%32)))):=hide (by rw [hh];exact C3.out.up _ _);have P4:Hid (HasF 75 w4 w.heap.size 244 (iv f)):=hide (by rw [hh];exact P3.out.other _ _ NS.out);have Z4:Hid (HasF 75 w4 (w.heap.size+1) 244 (iv fun _=>0)):=hide (by rw [hh];exact Z3.out.other _ _ NZ.out);have B4:Hid (Below w.heap.size w w4):=hide (by rw [hh];exact Below.setCell (p:=⟨w2.heap.size,39,none⟩) B3.out LG.out _);have cs4:=P4.out.int 0 (by decide);rw [hk] at cs4;clear hh C3 P3 Z3 B3 cs3)
  |(refine wpList_load_row rfl 72 (.tmp 7) rfl w2.heap.size rfl _ _ _ _ C4.out Tryz.underlying72 rfl (info_D _) ?_)
  |(refine wpList_store_part rfl 72 (.tmp 113) (.tmp 111) rfl w.heap.size (4+k*40) 40 (iv (up (ch f k) 39 (B%32))) rfl rfl P4.out (by omega) info_D40 (fun _ _=>rfl) ?_;refine under_list fun w5 hh=>?_;have b5:But w.heap.size w4 w5:=(by rw [hh];exact But.cells _ _ _ (But.refl _ _));have P5:Hid (HasF 75 w5 w.heap.size 244 (iv G)):=hide (by rw [hh];exact (P4.out.cells _ _ _).ext HG.out);have Z5:=hide (b5.keep Z4.out (Nat.succ_ne_self _));have B5:=hide (bbut B4.out b5 (Nat.le_refl _) (Nat.le_refl _));clear hh b5 C4 P4 Z4 B4 cs4)
  |(refine wpList_load_row rfl 75 (.tmp 3) rfl w.heap.size rfl _ _ _ _ P5.out Tryz.underlying75 rfl (info_R _) ?_)
  |(refine wpList_store_row rfl 75 (.tmp 6) (.tmp 114) rfl (w.heap.size+1) _ rfl rfl 75 _ Z5.out (info_R _) (by rw [rowF_size,rowF_size]) (rowF_one _ _) ?_))
 refine bodyPost_ret (results_cell_row rfl _ _ (w.heap.size+1) 75 _ (0,0) _ rfl (setRow_heap _ _ _ _ _ _ Z5.out) Tryz.underlying75 rfl (info_R _)) rfl ?_
 exact ⟨rfl,below_setRow B5.out (Nat.le_succ _) _⟩
set_option maxHeartbeats 1600000 in
theorem rch_6 (f:Nat→Int) (b B:Int) (w:World) (KV:Hid (∀w:World,Calls Tryz.prog 105 #[.agg (rowF (iv f) 244)] w fun e w'=>e=Ending.returned (.bool true)∧Below w.heap.size w w')) (KB:Hid (∀w:World,Calls Tryz.prog 49 #[.int .i64 b] w fun e w'=>e=Ending.returned (.int .i64 B)∧w'=w)) (b0:0≤B) (b1:B≤255) (k:Nat) (hk:f 0=(k:Int)) (hk6:k<6) (oc:okC (ch f k)) (h:¬ch f k 1/64%2=1):Calls Tryz.prog 53 #[.agg (rowF (iv f) 244),.int .i64 6,.int .i64 b] w fun e w'=>e=Ending.returned (.agg (rowF (iv (chW f k 6 B)) 244))∧Below w.heap.size w w':=by
 obtain ⟨x0,x1,x2,x3,x4,x5,x6,x7,x8⟩:=oc
 have q1:Int.tdiv (ch f k 1) 64=ch f k 1/64:=Int.tdiv_eq_ediv_of_nonneg (by omega)
 have q2:Int.tmod (ch f k 1/64) 2=0:=by rw [Int.tmod_eq_emod_of_nonneg (by omega)];omega
 have q3:Int.tmod B 32=B%32:=Int.tmod_eq_emod_of_nonneg (by omega)
 have q4:Int.tmod (ch f k 36+1) 32=(ch f k 36+1)%32:=Int.tmod_eq_emod_of_nonneg (by omega)
 have ne:36≠4+(ch f k 36).toNat:=by omega
 have HG:Hid (∀i,i<244→(if 4+k*40≤i∧i<4+k*40+40 then iv (up (up (ch f k) (4+(ch f k 36).toNat) (B%32)) 36 ((ch f k 36+1)%32)) (i-(4+k*40)) else iv f i)=iv (chW f k 6 B) i):=hide (chan_backB (fun j hj=>by show takeF f k (B%32) _=_;unfold takeF;rw [if_neg h];exact up2_chB f k _ 36 _ _ j) (fun i hi=>chW_other f k 6 B ⟨x4.1,x4.2⟩ i hi))
 obtain ⟨G,hG⟩:∃G,chW f k 6 B=G:=⟨_,rfl⟩
 rw [hG] at HG ⊢
 clear hG
 go_enter Tryz.func53,Tryz.ntmps53
 go_wp2_with (first
  |(refine wpList_alloced rfl 75 rfl (rowF (iv fun _=>0) 244) zero_R ?_)
  |(refine under_list fun w1 hw1=>?_;obtain ⟨n0,n1,n2,n3⟩:=two_named hw1;have P1:Hid (HasF 75 w1 w.heap.size 244 (iv f)):=hide n0;have Z1:Hid (HasF 75 w1 (w.heap.size+1) 244 (iv fun _=>0)):=hide n1;have B1:=hide n3;clear n0 n1 n2 n3 hw1;refine wpList_load_row rfl 75 (.tmp 3) rfl w.heap.size rfl _ _ _ _ P1.out Tryz.underlying75 rfl (info_R _) ?_)
  |(go_at_call 105;refine (KV.out _).mono ?_;rintro e w2 ⟨rfl,c2⟩;have P2:=hide (P1.out.next c2);have Z2:=hide (Z1.out.next c2);have B2:=hide (bnext B1.out c2);have cs:=P2.out.int 0 (by decide);rw [hk] at cs;clear c2 P1 Z1 B1)
  |(go_at_call 49;refine (KB.out _).mono ?_;rintro e w' ⟨rfl,hw⟩;subst w')
  |(refine wpList_load_ints rfl 72 (.tmp 47) rfl w.heap.size (4+k*40) rfl P2.out 40 (by omega) _ Tryz.underlying72 rfl info_D40 ?_)
  |(refine wpList_alloced rfl 72 rfl (rowF (iv fun _=>0) 40) zero_D ?_)
  |(refine wpList_store_row rfl 72 (.tmp 7) (.tmp 48) rfl w2.heap.size (rowF (iv (ch f k)) 40) (by simp [Act.eval,Act.put]) rfl 72 _ (hasF_new _ _ _ _) (info_D _) (by rw [rowF_size,rowF_size]) (rowF_one _ _) ?_;refine under_list fun w3 hh=>?_;have C3:Hid (HasF 72 w3 w2.heap.size 40 (iv (ch f k))):=hide (by rw [hh];exact setRow_heap _ _ _ _ _ _ (hasF_new _ _ _ _));have W3:Below w2.heap.size w2 w3:=(by rw [hh];exact below_setRow ((Below.refl _ _).alloc (Nat.le_refl _) _) (Nat.le_refl _) _);have P3:=hide (P2.out.next W3);have Z3:=hide (Z2.out.next W3);have B3:=hide (bnext B2.out W3);have NS:Hid (w.heap.size≠w2.heap.size):=hide (types_two P3.out C3.out (by decide));have NZ:Hid (w.heap.size+1≠w2.heap.size):=hide (types_two Z3.out C3.out (by decide));have LG:Hid (w.heap.size≤w2.heap.size):=hide B2.out.size;have cs3:=P3.out.int 0 (by decide);rw [hk] at cs3;have yy:=C3.out.int (4+(ch f k 36).toNat) (by omega);have zz:=C3.out.frozen (4+(ch f k 36).toNat);have y36:=C3.out.int 36 (by decide);have z36:=C3.out.frozen 36;have y1:=C3.out.int 1 (by decide);clear hh W3 P2 Z2 B2 cs)
  |(refine under_list fun w4 hh=>?_;have C4:Hid (HasF 72 w4 w2.heap.size 40 (iv (up (up (ch f k) (4+(ch f k 36).toNat) (B%32)) 36 ((ch f k 36+1)%32)))):=hide (by rw [hh];exact (C3.out.up _ _).up _ _);have P4:Hid (HasF 75 w4 w.heap.size 244 (iv f)):=hide (by rw [hh];exact (P3.out.other _ _ NS.out).other _ _ NS.out);have Z4:Hid (HasF 75 w4 (w.heap.size+1) 244 (iv fun _=>0)):=hide (by rw [hh];exact (Z3.out.other _ _ NZ.out).other _ _ NZ.out);have B4:Hid (Below w.heap.size w w4):=hide (by rw [hh];exact Below.setCell (p:=⟨w2.heap.size,36,none⟩) (Below.setCell (p:=⟨w2.heap.size,4+(ch f k 36).toNat,none⟩) B3.out LG.out _) LG.out _);have cs4:=P4.out.int 0 (by decide);rw [hk] at cs4;clear hh C3 P3 Z3 B3 cs3)
  |(refine wpList_load_row rfl 72 (.tmp 7) rfl w2.heap.size rfl _ _ _ _ C4.out Tryz.underlying72 rfl (info_D _) ?_)
  |(refine wpList_store_part rfl 72 (.tmp 113) (.tmp 111) rfl w.heap.size (4+k*40) 40 (iv (up (up (ch f k) (4+(ch f k 36).toNat) (B%32)) 36 ((ch f k 36+1)%32))) rfl rfl P4.out (by omega) info_D40 (fun _ _=>rfl) ?_;refine under_list fun w5 hh=>?_;have b5:But w.heap.size w4 w5:=(by rw [hh];exact But.cells _ _ _ (But.refl _ _));have P5:Hid (HasF 75 w5 w.heap.size 244 (iv G)):=hide (by rw [hh];exact (P4.out.cells _ _ _).ext HG.out);have Z5:=hide (b5.keep Z4.out (Nat.succ_ne_self _));have B5:=hide (bbut B4.out b5 (Nat.le_refl _) (Nat.le_refl _));clear hh b5 C4 P4 Z4 B4 cs4)
  |(refine wpList_load_row rfl 75 (.tmp 3) rfl w.heap.size rfl _ _ _ _ P5.out Tryz.underlying75 rfl (info_R _) ?_)
  |(refine wpList_store_row rfl 75 (.tmp 6) (.tmp 114) rfl (w.heap.size+1) _ rfl rfl 75 _ Z5.out (info_R _) (by rw [rowF_size,rowF_size]) (rowF_one _ _) ?_))
 refine bodyPost_ret (results_cell_row rfl _ _ (w.heap.size+1) 75 _ (0,0) _ rfl (setRow_heap _ _ _ _ _ _ Z5.out) Tryz.underlying75 rfl (info_R _)) rfl ?_
 exact ⟨rfl,below_setRow B5.out (Nat.le_succ _) _⟩
set_option maxHeartbeats 1600000 in
theorem rch_7 (f:Nat→Int) (b B:Int) (w:World) (KV:Hid (∀w:World,Calls Tryz.prog 105 #[.agg (rowF (iv f) 244)] w fun e w'=>e=Ending.returned (.bool true)∧Below w.heap.size w w')) (KB:Hid (∀w:World,Calls Tryz.prog 49 #[.int .i64 b] w fun e w'=>e=Ending.returned (.int .i64 B)∧w'=w)) (b0:0≤B) (b1:B≤255) (k:Nat) (hk:f 0=(k:Int)) (hk6:k<6) (oc:okC (ch f k)) (h:4≤k):Calls Tryz.prog 53 #[.agg (rowF (iv f) 244),.int .i64 7,.int .i64 b] w fun e w'=>e=Ending.returned (.agg (rowF (iv (chW f k 7 B)) 244))∧Below w.heap.size w w':=by
 obtain ⟨x0,x1,x2,x3,x4,x5,x6,x7,x8⟩:=oc
 have HG:Hid (∀i,i<244→(if 4+k*40≤i∧i<4+k*40+40 then iv (up (ch f k) 3 B) (i-(4+k*40)) else iv f i)=iv (chW f k 7 B) i):=hide (chan_backB (fun j hj=>by show (if 4≤k then up f (4+k*40+3) B else f) _=_;rw [if_pos h];exact up_chB f k 3 _ j) (fun i hi=>chW_other f k 7 B ⟨x4.1,x4.2⟩ i hi))
 obtain ⟨G,hG⟩:∃G,chW f k 7 B=G:=⟨_,rfl⟩
 rw [hG] at HG ⊢
 clear hG
 go_enter Tryz.func53,Tryz.ntmps53
 go_wp2_with (first
  |(refine wpList_alloced rfl 75 rfl (rowF (iv fun _=>0) 244) zero_R ?_)
  |(refine under_list fun w1 hw1=>?_;obtain ⟨n0,n1,n2,n3⟩:=two_named hw1;have P1:Hid (HasF 75 w1 w.heap.size 244 (iv f)):=hide n0;have Z1:Hid (HasF 75 w1 (w.heap.size+1) 244 (iv fun _=>0)):=hide n1;have B1:=hide n3;clear n0 n1 n2 n3 hw1;refine wpList_load_row rfl 75 (.tmp 3) rfl w.heap.size rfl _ _ _ _ P1.out Tryz.underlying75 rfl (info_R _) ?_)
  |(go_at_call 105;refine (KV.out _).mono ?_;rintro e w2 ⟨rfl,c2⟩;have P2:=hide (P1.out.next c2);have Z2:=hide (Z1.out.next c2);have B2:=hide (bnext B1.out c2);have cs:=P2.out.int 0 (by decide);rw [hk] at cs;clear c2 P1 Z1 B1)
  |(go_at_call 49;refine (KB.out _).mono ?_;rintro e w' ⟨rfl,hw⟩;subst w')
  |(refine wpList_load_ints rfl 72 (.tmp 47) rfl w.heap.size (4+k*40) rfl P2.out 40 (by omega) _ Tryz.underlying72 rfl info_D40 ?_)
  |(refine wpList_alloced rfl 72 rfl (rowF (iv fun _=>0) 40) zero_D ?_)
  |(refine wpList_store_row rfl 72 (.tmp 7) (.tmp 48) rfl w2.heap.size (rowF (iv (ch f k)) 40) (by simp [Act.eval,Act.put]) rfl 72 _ (hasF_new _ _ _ _) (info_D _) (by rw [rowF_size,rowF_size]) (rowF_one _ _) ?_;refine under_list fun w3 hh=>?_;have C3:Hid (HasF 72 w3 w2.heap.size 40 (iv (ch f k))):=hide (by rw [hh];exact setRow_heap _ _ _ _ _ _ (hasF_new _ _ _ _));have W3:Below w2.heap.size w2 w3:=(by rw [hh];exact below_setRow ((Below.refl _ _).alloc (Nat.le_refl _) _) (Nat.le_refl _) _);have P3:=hide (P2.out.next W3);have Z3:=hide (Z2.out.next W3);have B3:=hide (bnext B2.out W3);have NS:Hid (w.heap.size≠w2.heap.size):=hide (types_two P3.out C3.out (by decide));have NZ:Hid (w.heap.size+1≠w2.heap.size):=hide (types_two Z3.out C3.out (by decide));have LG:Hid (w.heap.size≤w2.heap.size):=hide B2.out.size;have cs3:=P3.out.int 0 (by decide);rw [hk] at cs3;have yy:=C3.out.int 3 (by decide);have zz:=C3.out.frozen 3;clear hh W3 P2 Z2 B2 cs)
  |(refine under_list fun w4 hh=>?_;have C4:Hid (HasF 72 w4 w2.heap.size 40 (iv (up (ch f k) 3 B))):=hide (by rw [hh];exact C3.out.up _ _);have P4:Hid (HasF 75 w4 w.heap.size 244 (iv f)):=hide (by rw [hh];exact P3.out.other _ _ NS.out);have Z4:Hid (HasF 75 w4 (w.heap.size+1) 244 (iv fun _=>0)):=hide (by rw [hh];exact Z3.out.other _ _ NZ.out);have B4:Hid (Below w.heap.size w w4):=hide (by rw [hh];exact Below.setCell (p:=⟨w2.heap.size,3,none⟩) B3.out LG.out _);have cs4:=P4.out.int 0 (by decide);rw [hk] at cs4;clear hh C3 P3 Z3 B3 cs3)
  |(refine wpList_load_row rfl 72 (.tmp 7) rfl w2.heap.size rfl _ _ _ _ C4.out Tryz.underlying72 rfl (info_D _) ?_)
  |(refine wpList_store_part rfl 72 (.tmp 113) (.tmp 111) rfl w.heap.size (4+k*40) 40 (iv (up (ch f k) 3 B)) rfl rfl P4.out (by omega) info_D40 (fun _ _=>rfl) ?_;refine under_list fun w5 hh=>?_;have b5:But w.heap.size w4 w5:=(by rw [hh];exact But.cells _ _ _ (But.refl _ _));have P5:Hid (HasF 75 w5 w.heap.size 244 (iv G)):=hide (by rw [hh];exact (P4.out.cells _ _ _).ext HG.out);have Z5:=hide (b5.keep Z4.out (Nat.succ_ne_self _));have B5:=hide (bbut B4.out b5 (Nat.le_refl _) (Nat.le_refl _));clear hh b5 C4 P4 Z4 B4 cs4)
  |(refine wpList_load_row rfl 75 (.tmp 3) rfl w.heap.size rfl _ _ _ _ P5.out Tryz.underlying75 rfl (info_R _) ?_)
  |(refine wpList_store_row rfl 75 (.tmp 6) (.tmp 114) rfl (w.heap.size+1) _ rfl rfl 75 _ Z5.out (info_R _) (by rw [rowF_size,rowF_size]) (rowF_one _ _) ?_))
 refine bodyPost_ret (results_cell_row rfl _ _ (w.heap.size+1) 75 _ (0,0) _ rfl (setRow_heap _ _ _ _ _ _ Z5.out) Tryz.underlying75 rfl (info_R _)) rfl ?_
 exact ⟨rfl,below_setRow B5.out (Nat.le_succ _) _⟩
set_option maxHeartbeats 1600000 in
theorem rch_7n (f:Nat→Int) (b B:Int) (w:World) (KV:Hid (∀w:World,Calls Tryz.prog 105 #[.agg (rowF (iv f) 244)] w fun e w'=>e=Ending.returned (.bool true)∧Below w.heap.size w w')) (KB:Hid (∀w:World,Calls Tryz.prog 49 #[.int .i64 b] w fun e w'=>e=Ending.returned (.int .i64 B)∧w'=w)) (b0:0≤B) (b1:B≤255) (k:Nat) (hk:f 0=(k:Int)) (hk6:k<6) (oc:okC (ch f k)) (h:¬4≤k):Calls Tryz.prog 53 #[.agg (rowF (iv f) 244),.int .i64 7,.int .i64 b] w fun e w'=>e=Ending.returned (.agg (rowF (iv (chW f k 7 B)) 244))∧Below w.heap.size w w':=by
 obtain ⟨x0,x1,x2,x3,x4,x5,x6,x7,x8⟩:=oc
 have HG:Hid (∀i,i<244→(if 4+k*40≤i∧i<4+k*40+40 then iv (ch f k) (i-(4+k*40)) else iv f i)=iv (chW f k 7 B) i):=hide (chan_backB (fun j hj=>by show (if 4≤k then _ else f) _=_;rw [if_neg h];rfl) (fun i hi=>chW_other f k 7 B ⟨x4.1,x4.2⟩ i hi))
 obtain ⟨G,hG⟩:∃G,chW f k 7 B=G:=⟨_,rfl⟩
 rw [hG] at HG ⊢
 clear hG
 go_enter Tryz.func53,Tryz.ntmps53
 go_wp2_with (first
  |(refine wpList_alloced rfl 75 rfl (rowF (iv fun _=>0) 244) zero_R ?_)
  |(refine under_list fun w1 hw1=>?_;obtain ⟨n0,n1,n2,n3⟩:=two_named hw1;have P1:Hid (HasF 75 w1 w.heap.size 244 (iv f)):=hide n0;have Z1:Hid (HasF 75 w1 (w.heap.size+1) 244 (iv fun _=>0)):=hide n1;have B1:=hide n3;clear n0 n1 n2 n3 hw1;refine wpList_load_row rfl 75 (.tmp 3) rfl w.heap.size rfl _ _ _ _ P1.out Tryz.underlying75 rfl (info_R _) ?_)
  |(go_at_call 105;refine (KV.out _).mono ?_;rintro e w2 ⟨rfl,c2⟩;have P2:=hide (P1.out.next c2);have Z2:=hide (Z1.out.next c2);have B2:=hide (bnext B1.out c2);have cs:=P2.out.int 0 (by decide);rw [hk] at cs;clear c2 P1 Z1 B1)
  |(go_at_call 49;refine (KB.out _).mono ?_;rintro e w' ⟨rfl,hw⟩;subst w')
  |(refine wpList_load_ints rfl 72 (.tmp 47) rfl w.heap.size (4+k*40) rfl P2.out 40 (by omega) _ Tryz.underlying72 rfl info_D40 ?_)
  |(refine wpList_alloced rfl 72 rfl (rowF (iv fun _=>0) 40) zero_D ?_)
  |(refine wpList_store_row rfl 72 (.tmp 7) (.tmp 48) rfl w2.heap.size (rowF (iv (ch f k)) 40) (by simp [Act.eval,Act.put]) rfl 72 _ (hasF_new _ _ _ _) (info_D _) (by rw [rowF_size,rowF_size]) (rowF_one _ _) ?_;refine under_list fun w3 hh=>?_;have C3:Hid (HasF 72 w3 w2.heap.size 40 (iv (ch f k))):=hide (by rw [hh];exact setRow_heap _ _ _ _ _ _ (hasF_new _ _ _ _));have W3:Below w2.heap.size w2 w3:=(by rw [hh];exact below_setRow ((Below.refl _ _).alloc (Nat.le_refl _) _) (Nat.le_refl _) _);have P3:=hide (P2.out.next W3);have Z3:=hide (Z2.out.next W3);have B3:=hide (bnext B2.out W3);have NS:Hid (w.heap.size≠w2.heap.size):=hide (types_two P3.out C3.out (by decide));have NZ:Hid (w.heap.size+1≠w2.heap.size):=hide (types_two Z3.out C3.out (by decide));have LG:Hid (w.heap.size≤w2.heap.size):=hide B2.out.size;have cs3:=P3.out.int 0 (by decide);rw [hk] at cs3;skip;clear hh W3 P2 Z2 B2 cs)
  |(refine under_list fun w4 hh=>?_;have C4:Hid (HasF 72 w4 w2.heap.size 40 (iv (ch f k))):=hide (by rw [hh];exact C3.out);have P4:=P3;have Z4:=Z3;have B4:=B3;rw [←hh] at P4 Z4 B4;have cs4:=P4.out.int 0 (by decide);rw [hk] at cs4;clear hh C3 P3 Z3 B3 cs3)
  |(refine wpList_load_row rfl 72 (.tmp 7) rfl w2.heap.size rfl _ _ _ _ C4.out Tryz.underlying72 rfl (info_D _) ?_)
  |(refine wpList_store_part rfl 72 (.tmp 113) (.tmp 111) rfl w.heap.size (4+k*40) 40 (iv (ch f k)) rfl rfl P4.out (by omega) info_D40 (fun _ _=>rfl) ?_;refine under_list fun w5 hh=>?_;have b5:But w.heap.size w4 w5:=(by rw [hh];exact But.cells _ _ _ (But.refl _ _));have P5:Hid (HasF 75 w5 w.heap.size 244 (iv G)):=hide (by rw [hh];exact (P4.out.cells _ _ _).ext HG.out);have Z5:=hide (b5.keep Z4.out (Nat.succ_ne_self _));have B5:=hide (bbut B4.out b5 (Nat.le_refl _) (Nat.le_refl _));clear hh b5 C4 P4 Z4 B4 cs4)
  |(refine wpList_load_row rfl 75 (.tmp 3) rfl w.heap.size rfl _ _ _ _ P5.out Tryz.underlying75 rfl (info_R _) ?_)
  |(refine wpList_store_row rfl 75 (.tmp 6) (.tmp 114) rfl (w.heap.size+1) _ rfl rfl 75 _ Z5.out (info_R _) (by rw [rowF_size,rowF_size]) (rowF_one _ _) ?_))
 refine bodyPost_ret (results_cell_row rfl _ _ (w.heap.size+1) 75 _ (0,0) _ rfl (setRow_heap _ _ _ _ _ _ Z5.out) Tryz.underlying75 rfl (info_R _)) rfl ?_
 exact ⟨rfl,below_setRow B5.out (Nat.le_succ _) _⟩
end Go.Proofs.YtnllcknfmciebaaGreatDoor.P22
