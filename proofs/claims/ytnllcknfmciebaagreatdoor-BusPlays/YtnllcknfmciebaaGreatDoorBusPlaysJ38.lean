/- The document's own: what may be. -/
import Derived.Test.YtnllcknfmciebaaGreatDoorBusPlaysJ13
namespace Go.Proofs.YtnllcknfmciebaaGreatDoor.P22
set_option maxRecDepth 20000
open Go.RowKit
set_option linter.unusedVariables false
theorem rin_any (n m:Int) (w:World):Calls Tryz.prog 147 #[.int .i64 n,.int .i64 m] w fun e w'=>e=Ending.returned (.bool (inB n 0 m))∧w'=w:=by
 by_cases h0:0≤n
 ·by_cases h1:n≤m
  ·have HQ:Hid (inB n 0 m=true):=hide (by simp [inB,h0,h1])
   go_enter Tryz.func147,Tryz.ntmps147
   go_wp2
   go_ret
   exact ⟨ret_bool HQ.out.symm,rfl⟩
  ·have HQ:Hid (inB n 0 m=false):=hide (by simp [inB,h1])
   go_enter Tryz.func147,Tryz.ntmps147
   go_wp2
   go_ret
   exact ⟨ret_bool HQ.out.symm,rfl⟩
 ·have HQ:Hid (inB n 0 m=false):=hide (by simp [inB,h0])
  go_enter Tryz.func147,Tryz.ntmps147
  go_wp2
  go_ret
  exact ⟨ret_bool HQ.out.symm,rfl⟩
theorem info_R (c:Nat→Value):(Tryz.prog.info? 75).map (·.size)=some (rowF c 244).size:=by
 rw [rowF_size]
 kernel_rfl
theorem info_D (c:Nat→Value):(Tryz.prog.info? 72).map (·.size)=some (rowF c 40).size:=by
 rw [rowF_size]
 kernel_rfl
theorem info_D40:(Tryz.prog.info? 72).map (·.size)=some 40:=by kernel_rfl
theorem zero_D (w:World):(zeroValue 72).run Tryz.prog w=.ok (.agg (rowF (iv fun _=>0) 40)) w:=by kernel_rfl
theorem zero_R (w:World):(zeroValue 75).run Tryz.prog w=.ok (.agg (rowF (iv fun _=>0) 244)) w:=by kernel_rfl
theorem inB_no {n l m:Int} (h:inB n l m=false):¬(l≤n∧n≤m):=fun e=>by rw [inB_iff.2 e] at h;cases h
theorem bnext3 {B:Nat} {w a b:World} (h:Below B w a) (hB:B≤w.heap.size) (k:Below a.heap.size a b):Below B w b:=h.trans (k.mono (Nat.le_trans hB h.size))
set_option maxHeartbeats 8000000 in
theorem rvalid_any (f:Nat→Int) (w:World):Calls Tryz.prog 105 #[.agg (rowF (iv f) 244)] w fun e w'=>e=Ending.returned (.bool (vB f))∧Below w.heap.size w w':=by
 have e0:=rowF_at (iv f) 244 0 (by decide)
 have e1:=rowF_at (iv f) 244 1 (by decide)
 have e2:=rowF_at (iv f) 244 2 (by decide)
 have e3:=rowF_at (iv f) 244 3 (by decide)
 have P0:=hide (hasF_new 75 w 244 (iv f))
 have NO:Hid (∀k,k<6→¬okC (ch f k)→vB f=false):=hide (fun k hk h=>vB_no fun ok=>h (ok.2.2.2.2 k hk))
 simp only [iv] at e0 e1 e2 e3
 rcases t0:inB (f 0) 0 7 with _|_
 ·
  have HQ:Hid (vB f=false):=hide (vB_no fun ok=>inB_no t0 ok.1)
  generalize rowF (iv f) 244=R at *
  go_enter Tryz.func105,Tryz.ntmps105
  go_wp2_with (go_at_call 147;refine (rin_any _ _ _).mono ?_;rintro e w' ⟨rfl,hw⟩;subst w')
  go_ret
  exact ⟨ret_bool HQ.out.symm,(Below.refl _ _).alloc (Nat.le_refl _) _⟩
 rcases t1:inB (f 1) 0 255 with _|_
 ·
  have HQ:Hid (vB f=false):=hide (vB_no fun ok=>inB_no t1 ok.2.1)
  generalize rowF (iv f) 244=R at *
  go_enter Tryz.func105,Tryz.ntmps105
  go_wp2_with (go_at_call 147;refine (rin_any _ _ _).mono ?_;rintro e w' ⟨rfl,hw⟩;subst w')
  go_ret
  exact ⟨ret_bool HQ.out.symm,(Below.refl _ _).alloc (Nat.le_refl _) _⟩
 rcases t2:inB (f 2) 0 255 with _|_
 ·
  have HQ:Hid (vB f=false):=hide (vB_no fun ok=>inB_no t2 ok.2.2.1)
  generalize rowF (iv f) 244=R at *
  go_enter Tryz.func105,Tryz.ntmps105
  go_wp2_with (go_at_call 147;refine (rin_any _ _ _).mono ?_;rintro e w' ⟨rfl,hw⟩;subst w')
  go_ret
  exact ⟨ret_bool HQ.out.symm,(Below.refl _ _).alloc (Nat.le_refl _) _⟩
 rcases t3:inB (f 3) 0 255 with _|_
 ·
  have HQ:Hid (vB f=false):=hide (vB_no fun ok=>inB_no t3 ok.2.2.2.1)
  generalize rowF (iv f) 244=R at *
  go_enter Tryz.func105,Tryz.ntmps105
  go_wp2_with (go_at_call 147;refine (rin_any _ _ _).mono ?_;rintro e w' ⟨rfl,hw⟩;subst w')
  go_ret
  exact ⟨ret_bool HQ.out.symm,(Below.refl _ _).alloc (Nat.le_refl _) _⟩
 have HD:=hide (And.intro (inB_iff.1 t0) (And.intro (inB_iff.1 t1) (And.intro (inB_iff.1 t2) (inB_iff.1 t3))))
 have RI:=hide (rowF_size (iv f) 244)
 have HR:=hide (show HasF 75 (w.alloc (.cells (rowF (iv f) 244) 75)) w.heap.size 244 (iv f) from P0.out)
 have B0:Hid (Below w.heap.size w (w.alloc (.cells (rowF (iv f) 244) 75))):=hide ((Below.refl _ w).alloc (Nat.le_refl _) _)
 clear P0
 generalize rowF (iv f) 244=R at *
 go_enter Tryz.func105,Tryz.ntmps105
 go_wp2_with (go_at_call 147;refine (rin_any _ _ _).mono ?_;rintro e w' ⟨rfl,hw⟩;subst w')
 refine under_name fun wa hwa=>?_
 rw [←hwa] at HR B0
 clear hwa
 obtain ⟨s0,hs0⟩:∃s,w.heap.size=s:=⟨_,rfl⟩
 rw [hs0] at HR B0 ⊢
 have S0:Hid (s0≤w.heap.size):=hide (by omega)
 clear e0 e1 e2 e3 t0 t1 t2 t3
 go_loopw [3] (fun v w'=>∃k:Nat,k≤6∧v=.int .i64 k∧(∀j,j<k→okC (ch f j))∧HasF 75 w' s0 244 (iv f)∧Below s0 w w') (fun v _=>6-(intOf v).toNat)
 case atStart=>exact ⟨0,by decide,rfl,fun j hj=>by omega,HR.out,B0.out⟩
 case round=>
  clear HR B0
  obtain ⟨k,hk,rfl,hall,hp,hb⟩:=hrel
  have HA:=hide hall
  have P1:=hide hp
  have B1:=hide hb
  clear hall hp hb
  by_cases hlt:k<6
  ·
   rcases u0:inB (ch f k 0) 0 4095 with _|_
   ·
    go_wp2_with (first
     |(refine wpList_load_ints rfl 72 (.tmp 34) rfl s0 (4+k*40) rfl P1.out 40 (by omega) _ Tryz.underlying72 rfl info_D40 ?_)
     |(refine wpList_alloced rfl 72 rfl (rowF (iv fun _=>0) 40) zero_D ?_)
     |(refine wpList_store_row rfl 72 (.tmp 4) (.tmp 35) rfl wr.heap.size (rowF (iv (ch f k)) 40) (by simp [Act.eval,Act.put]) rfl 72 _ (hasF_new _ _ _ _) (info_D _) (by rw [rowF_size,rowF_size]) (rowF_one _ _) ?_;refine under_list fun w2 hh=>?_;have C2:Hid (HasF 72 w2 wr.heap.size 40 (iv (ch f k))):=hide (by rw [hh];exact setRow_heap _ _ _ _ _ _ (hasF_new _ _ _ _));have W2:Hid (Below wr.heap.size wr w2):=hide (by rw [hh];exact below_setRow ((Below.refl _ _).alloc (Nat.le_refl _) _) (Nat.le_refl _) _);clear hh;have y0:=C2.out.int 0 (by decide))
     |(go_at_call 147;refine (rin_any _ _ _).mono ?_;rintro e w' ⟨rfl,hw⟩;subst w'))
    go_ret
    exact ⟨ret_bool (NO.out k hlt (fun oc=>by exact inB_no u0 oc.1)).symm,by rw [hs0];exact bnext3 B1.out S0.out W2.out⟩
   rcases u1:inB (ch f k 1) 0 255 with _|_
   ·
    go_wp2_with (first
     |(refine wpList_load_ints rfl 72 (.tmp 34) rfl s0 (4+k*40) rfl P1.out 40 (by omega) _ Tryz.underlying72 rfl info_D40 ?_)
     |(refine wpList_alloced rfl 72 rfl (rowF (iv fun _=>0) 40) zero_D ?_)
     |(refine wpList_store_row rfl 72 (.tmp 4) (.tmp 35) rfl wr.heap.size (rowF (iv (ch f k)) 40) (by simp [Act.eval,Act.put]) rfl 72 _ (hasF_new _ _ _ _) (info_D _) (by rw [rowF_size,rowF_size]) (rowF_one _ _) ?_;refine under_list fun w2 hh=>?_;have C2:Hid (HasF 72 w2 wr.heap.size 40 (iv (ch f k))):=hide (by rw [hh];exact setRow_heap _ _ _ _ _ _ (hasF_new _ _ _ _));have W2:Hid (Below wr.heap.size wr w2):=hide (by rw [hh];exact below_setRow ((Below.refl _ _).alloc (Nat.le_refl _) _) (Nat.le_refl _) _);clear hh;have y0:=C2.out.int 0 (by decide);have y1:=C2.out.int 1 (by decide))
     |(go_at_call 147;refine (rin_any _ _ _).mono ?_;rintro e w' ⟨rfl,hw⟩;subst w'))
    go_ret
    exact ⟨ret_bool (NO.out k hlt (fun oc=>by exact inB_no u1 oc.2.1)).symm,by rw [hs0];exact bnext3 B1.out S0.out W2.out⟩
   rcases u2:inB (ch f k 2) 0 255 with _|_
   ·
    go_wp2_with (first
     |(refine wpList_load_ints rfl 72 (.tmp 34) rfl s0 (4+k*40) rfl P1.out 40 (by omega) _ Tryz.underlying72 rfl info_D40 ?_)
     |(refine wpList_alloced rfl 72 rfl (rowF (iv fun _=>0) 40) zero_D ?_)
     |(refine wpList_store_row rfl 72 (.tmp 4) (.tmp 35) rfl wr.heap.size (rowF (iv (ch f k)) 40) (by simp [Act.eval,Act.put]) rfl 72 _ (hasF_new _ _ _ _) (info_D _) (by rw [rowF_size,rowF_size]) (rowF_one _ _) ?_;refine under_list fun w2 hh=>?_;have C2:Hid (HasF 72 w2 wr.heap.size 40 (iv (ch f k))):=hide (by rw [hh];exact setRow_heap _ _ _ _ _ _ (hasF_new _ _ _ _));have W2:Hid (Below wr.heap.size wr w2):=hide (by rw [hh];exact below_setRow ((Below.refl _ _).alloc (Nat.le_refl _) _) (Nat.le_refl _) _);clear hh;have y0:=C2.out.int 0 (by decide);have y1:=C2.out.int 1 (by decide);have y2:=C2.out.int 2 (by decide))
     |(go_at_call 147;refine (rin_any _ _ _).mono ?_;rintro e w' ⟨rfl,hw⟩;subst w'))
    go_ret
    exact ⟨ret_bool (NO.out k hlt (fun oc=>by exact inB_no u2 oc.2.2.1)).symm,by rw [hs0];exact bnext3 B1.out S0.out W2.out⟩
   rcases u3:inB (ch f k 3) 0 255 with _|_
   ·
    go_wp2_with (first
     |(refine wpList_load_ints rfl 72 (.tmp 34) rfl s0 (4+k*40) rfl P1.out 40 (by omega) _ Tryz.underlying72 rfl info_D40 ?_)
     |(refine wpList_alloced rfl 72 rfl (rowF (iv fun _=>0) 40) zero_D ?_)
     |(refine wpList_store_row rfl 72 (.tmp 4) (.tmp 35) rfl wr.heap.size (rowF (iv (ch f k)) 40) (by simp [Act.eval,Act.put]) rfl 72 _ (hasF_new _ _ _ _) (info_D _) (by rw [rowF_size,rowF_size]) (rowF_one _ _) ?_;refine under_list fun w2 hh=>?_;have C2:Hid (HasF 72 w2 wr.heap.size 40 (iv (ch f k))):=hide (by rw [hh];exact setRow_heap _ _ _ _ _ _ (hasF_new _ _ _ _));have W2:Hid (Below wr.heap.size wr w2):=hide (by rw [hh];exact below_setRow ((Below.refl _ _).alloc (Nat.le_refl _) _) (Nat.le_refl _) _);clear hh;have y0:=C2.out.int 0 (by decide);have y1:=C2.out.int 1 (by decide);have y2:=C2.out.int 2 (by decide);have y3:=C2.out.int 3 (by decide))
     |(go_at_call 147;refine (rin_any _ _ _).mono ?_;rintro e w' ⟨rfl,hw⟩;subst w'))
    go_ret
    exact ⟨ret_bool (NO.out k hlt (fun oc=>by exact inB_no u3 oc.2.2.2.1)).symm,by rw [hs0];exact bnext3 B1.out S0.out W2.out⟩
   rcases u36:inB (ch f k 36) 0 31 with _|_
   ·
    go_wp2_with (first
     |(refine wpList_load_ints rfl 72 (.tmp 34) rfl s0 (4+k*40) rfl P1.out 40 (by omega) _ Tryz.underlying72 rfl info_D40 ?_)
     |(refine wpList_alloced rfl 72 rfl (rowF (iv fun _=>0) 40) zero_D ?_)
     |(refine wpList_store_row rfl 72 (.tmp 4) (.tmp 35) rfl wr.heap.size (rowF (iv (ch f k)) 40) (by simp [Act.eval,Act.put]) rfl 72 _ (hasF_new _ _ _ _) (info_D _) (by rw [rowF_size,rowF_size]) (rowF_one _ _) ?_;refine under_list fun w2 hh=>?_;have C2:Hid (HasF 72 w2 wr.heap.size 40 (iv (ch f k))):=hide (by rw [hh];exact setRow_heap _ _ _ _ _ _ (hasF_new _ _ _ _));have W2:Hid (Below wr.heap.size wr w2):=hide (by rw [hh];exact below_setRow ((Below.refl _ _).alloc (Nat.le_refl _) _) (Nat.le_refl _) _);clear hh;have y0:=C2.out.int 0 (by decide);have y1:=C2.out.int 1 (by decide);have y2:=C2.out.int 2 (by decide);have y3:=C2.out.int 3 (by decide);have y36:=C2.out.int 36 (by decide))
     |(go_at_call 147;refine (rin_any _ _ _).mono ?_;rintro e w' ⟨rfl,hw⟩;subst w'))
    go_ret
    exact ⟨ret_bool (NO.out k hlt (fun oc=>by exact inB_no u36 oc.2.2.2.2.1)).symm,by rw [hs0];exact bnext3 B1.out S0.out W2.out⟩
   rcases u39:inB (ch f k 39) 0 31 with _|_
   ·
    go_wp2_with (first
     |(refine wpList_load_ints rfl 72 (.tmp 34) rfl s0 (4+k*40) rfl P1.out 40 (by omega) _ Tryz.underlying72 rfl info_D40 ?_)
     |(refine wpList_alloced rfl 72 rfl (rowF (iv fun _=>0) 40) zero_D ?_)
     |(refine wpList_store_row rfl 72 (.tmp 4) (.tmp 35) rfl wr.heap.size (rowF (iv (ch f k)) 40) (by simp [Act.eval,Act.put]) rfl 72 _ (hasF_new _ _ _ _) (info_D _) (by rw [rowF_size,rowF_size]) (rowF_one _ _) ?_;refine under_list fun w2 hh=>?_;have C2:Hid (HasF 72 w2 wr.heap.size 40 (iv (ch f k))):=hide (by rw [hh];exact setRow_heap _ _ _ _ _ _ (hasF_new _ _ _ _));have W2:Hid (Below wr.heap.size wr w2):=hide (by rw [hh];exact below_setRow ((Below.refl _ _).alloc (Nat.le_refl _) _) (Nat.le_refl _) _);clear hh;have y0:=C2.out.int 0 (by decide);have y1:=C2.out.int 1 (by decide);have y2:=C2.out.int 2 (by decide);have y3:=C2.out.int 3 (by decide);have y36:=C2.out.int 36 (by decide);have y39:=C2.out.int 39 (by decide))
     |(go_at_call 147;refine (rin_any _ _ _).mono ?_;rintro e w' ⟨rfl,hw⟩;subst w'))
    go_ret
    exact ⟨ret_bool (NO.out k hlt (fun oc=>by exact inB_no u39 oc.2.2.2.2.2.2.2.1)).symm,by rw [hs0];exact bnext3 B1.out S0.out W2.out⟩
   rcases u37:inB (ch f k 37) 0 16777215 with _|_
   ·
    go_wp2_with (first
     |(refine wpList_load_ints rfl 72 (.tmp 34) rfl s0 (4+k*40) rfl P1.out 40 (by omega) _ Tryz.underlying72 rfl info_D40 ?_)
     |(refine wpList_alloced rfl 72 rfl (rowF (iv fun _=>0) 40) zero_D ?_)
     |(refine wpList_store_row rfl 72 (.tmp 4) (.tmp 35) rfl wr.heap.size (rowF (iv (ch f k)) 40) (by simp [Act.eval,Act.put]) rfl 72 _ (hasF_new _ _ _ _) (info_D _) (by rw [rowF_size,rowF_size]) (rowF_one _ _) ?_;refine under_list fun w2 hh=>?_;have C2:Hid (HasF 72 w2 wr.heap.size 40 (iv (ch f k))):=hide (by rw [hh];exact setRow_heap _ _ _ _ _ _ (hasF_new _ _ _ _));have W2:Hid (Below wr.heap.size wr w2):=hide (by rw [hh];exact below_setRow ((Below.refl _ _).alloc (Nat.le_refl _) _) (Nat.le_refl _) _);clear hh;have y0:=C2.out.int 0 (by decide);have y1:=C2.out.int 1 (by decide);have y2:=C2.out.int 2 (by decide);have y3:=C2.out.int 3 (by decide);have y36:=C2.out.int 36 (by decide);have y39:=C2.out.int 39 (by decide);have y37:=C2.out.int 37 (by decide))
     |(go_at_call 147;refine (rin_any _ _ _).mono ?_;rintro e w' ⟨rfl,hw⟩;subst w'))
    go_ret
    exact ⟨ret_bool (NO.out k hlt (fun oc=>by exact inB_no u37 oc.2.2.2.2.2.1)).symm,by rw [hs0];exact bnext3 B1.out S0.out W2.out⟩
   rcases u38:inB (ch f k 38) 0 262143 with _|_
   ·
    go_wp2_with (first
     |(refine wpList_load_ints rfl 72 (.tmp 34) rfl s0 (4+k*40) rfl P1.out 40 (by omega) _ Tryz.underlying72 rfl info_D40 ?_)
     |(refine wpList_alloced rfl 72 rfl (rowF (iv fun _=>0) 40) zero_D ?_)
     |(refine wpList_store_row rfl 72 (.tmp 4) (.tmp 35) rfl wr.heap.size (rowF (iv (ch f k)) 40) (by simp [Act.eval,Act.put]) rfl 72 _ (hasF_new _ _ _ _) (info_D _) (by rw [rowF_size,rowF_size]) (rowF_one _ _) ?_;refine under_list fun w2 hh=>?_;have C2:Hid (HasF 72 w2 wr.heap.size 40 (iv (ch f k))):=hide (by rw [hh];exact setRow_heap _ _ _ _ _ _ (hasF_new _ _ _ _));have W2:Hid (Below wr.heap.size wr w2):=hide (by rw [hh];exact below_setRow ((Below.refl _ _).alloc (Nat.le_refl _) _) (Nat.le_refl _) _);clear hh;have y0:=C2.out.int 0 (by decide);have y1:=C2.out.int 1 (by decide);have y2:=C2.out.int 2 (by decide);have y3:=C2.out.int 3 (by decide);have y36:=C2.out.int 36 (by decide);have y39:=C2.out.int 39 (by decide);have y37:=C2.out.int 37 (by decide);have y38:=C2.out.int 38 (by decide))
     |(go_at_call 147;refine (rin_any _ _ _).mono ?_;rintro e w' ⟨rfl,hw⟩;subst w'))
    go_ret
    exact ⟨ret_bool (NO.out k hlt (fun oc=>by have q:=oc.2.2.2.2.2.2.1;exact inB_no u38 ⟨by omega,q.2⟩)).symm,by rw [hs0];exact bnext3 B1.out S0.out W2.out⟩
   by_cases z38:ch f k 38=0
   ·
    go_wp2_with (first
     |(refine wpList_load_ints rfl 72 (.tmp 34) rfl s0 (4+k*40) rfl P1.out 40 (by omega) _ Tryz.underlying72 rfl info_D40 ?_)
     |(refine wpList_alloced rfl 72 rfl (rowF (iv fun _=>0) 40) zero_D ?_)
     |(refine wpList_store_row rfl 72 (.tmp 4) (.tmp 35) rfl wr.heap.size (rowF (iv (ch f k)) 40) (by simp [Act.eval,Act.put]) rfl 72 _ (hasF_new _ _ _ _) (info_D _) (by rw [rowF_size,rowF_size]) (rowF_one _ _) ?_;refine under_list fun w2 hh=>?_;have C2:Hid (HasF 72 w2 wr.heap.size 40 (iv (ch f k))):=hide (by rw [hh];exact setRow_heap _ _ _ _ _ _ (hasF_new _ _ _ _));have W2:Hid (Below wr.heap.size wr w2):=hide (by rw [hh];exact below_setRow ((Below.refl _ _).alloc (Nat.le_refl _) _) (Nat.le_refl _) _);clear hh;have y0:=C2.out.int 0 (by decide);have y1:=C2.out.int 1 (by decide);have y2:=C2.out.int 2 (by decide);have y3:=C2.out.int 3 (by decide);have y36:=C2.out.int 36 (by decide);have y39:=C2.out.int 39 (by decide);have y37:=C2.out.int 37 (by decide);have y38:=C2.out.int 38 (by decide))
     |(go_at_call 147;refine (rin_any _ _ _).mono ?_;rintro e w' ⟨rfl,hw⟩;subst w'))
    go_ret
    exact ⟨ret_bool (NO.out k hlt (fun oc=>by have q:=oc.2.2.2.2.2.2.1;omega)).symm,by rw [hs0];exact bnext3 B1.out S0.out W2.out⟩
   have z38':(ch f k 38==0)=false:=by simpa using z38
   have OC:=hide (fun (hw:∀i,i<32→0≤ch f k (4+i)∧ch f k (4+i)≤31)=>(show okC (ch f k) from ⟨inB_iff.1 u0,inB_iff.1 u1,inB_iff.1 u2,inB_iff.1 u3,inB_iff.1 u36,inB_iff.1 u37,⟨by have:=inB_iff.1 u38;omega,(inB_iff.1 u38).2⟩,inB_iff.1 u39,hw⟩))
   go_wp2_with (first
    |(refine wpList_load_ints rfl 72 (.tmp 34) rfl s0 (4+k*40) rfl P1.out 40 (by omega) _ Tryz.underlying72 rfl info_D40 ?_)
    |(refine wpList_alloced rfl 72 rfl (rowF (iv fun _=>0) 40) zero_D ?_)
    |(refine wpList_store_row rfl 72 (.tmp 4) (.tmp 35) rfl wr.heap.size (rowF (iv (ch f k)) 40) (by simp [Act.eval,Act.put]) rfl 72 _ (hasF_new _ _ _ _) (info_D _) (by rw [rowF_size,rowF_size]) (rowF_one _ _) ?_;refine under_list fun w2 hh=>?_;have C2:Hid (HasF 72 w2 wr.heap.size 40 (iv (ch f k))):=hide (by rw [hh];exact setRow_heap _ _ _ _ _ _ (hasF_new _ _ _ _));have W2:Hid (Below wr.heap.size wr w2):=hide (by rw [hh];exact below_setRow ((Below.refl _ _).alloc (Nat.le_refl _) _) (Nat.le_refl _) _);clear hh;have y0:=C2.out.int 0 (by decide);have y1:=C2.out.int 1 (by decide);have y2:=C2.out.int 2 (by decide);have y3:=C2.out.int 3 (by decide);have y36:=C2.out.int 36 (by decide);have y39:=C2.out.int 39 (by decide);have y37:=C2.out.int 37 (by decide);have y38:=C2.out.int 38 (by decide))
    |(go_at_call 147;refine (rin_any _ _ _).mono ?_;rintro e w' ⟨rfl,hw⟩;subst w'))
   clear u0 u1 u2 u3 u36 u37 u38 u39 z38 z38' y0 y1 y2 y3 y36 y37 y38 y39
   have B2:=hide (bnext3 B1.out S0.out W2.out)
   have P2:=hide (P1.out.next W2.out)
   clear B1 P1 W2
   generalize wr.heap.size=g4 at *
   have hd:decide ((k:Int)<6)=true:=by simp;omega
   try simp only [hd]
   go_loopw [5] (fun v w'=>∃i:Nat,i≤32∧v=.int .i64 i∧(∀j,j<i→0≤ch f k (4+j)∧ch f k (4+j)≤31)∧w'=w2) (fun v _=>32-(intOf v).toNat)
   case atStart=>exact ⟨0,by decide,rfl,fun j hj=>by omega,rfl⟩
   case round=>
    obtain ⟨i,hi,rfl,hw,hww⟩:=hrel
    subst hww
    have HW:=hide hw
    clear hw
    by_cases hi2:i<32
    ·have ci:=C2.out.int (4+i) (by omega)
     rcases ui:inB (ch f k (4+i)) 0 31 with _|_
     ·set_option maxRecDepth 20000 in
      go_wp2_with (go_at_call 147;refine (rin_any _ _ _).mono ?_;rintro e w' ⟨rfl,hw⟩;subst w')
      go_ret
      exact ⟨ret_bool (NO.out k hlt (fun oc=>inB_no ui (oc.2.2.2.2.2.2.2.2 i hi2))).symm,by rw [hs0];exact B2.out⟩
     ·have HI:=hide (inB_iff.1 ui)
      go_wp2_with (go_at_call 147;refine (rin_any _ _ _).mono ?_;rintro e w' ⟨rfl,hw⟩;subst w')
      exact ⟨⟨i+1,by omega,by go_num,fun j hj=>by
       by_cases e:j=i
       ·rw [e];exact HI.out
       ·exact HW.out j (by omega),trivial⟩,by simp [intOf];omega⟩
    ·obtain rfl:i=32:=by omega
     have OK:=hide (OC.out HW.out)
     go_wp2_with fail
     exact ⟨⟨k+1,by omega,by go_num,fun j hj=>by
      by_cases e:j=k
      ·rw [e];exact OK.out
      ·exact HA.out j (by omega),P2.out,B2.out⟩,by simp [intOf];omega⟩
  ·obtain rfl:k=6:=by omega
   have HQ:Hid (vB f=true):=hide ((vB_iff f).1 ⟨HD.out.1,HD.out.2.1,HD.out.2.2.1,HD.out.2.2.2,HA.out⟩)
   go_wp2_with fail
   go_ret
   exact ⟨ret_bool HQ.out.symm,by rw [hs0];exact B1.out⟩
end Go.Proofs.YtnllcknfmciebaaGreatDoor.P22
