/- Texts put together. -/
import Derived.Test.YtnllcknfmciebaaGreatDoorBusPlaysJ38
import Derived.Test.YtnllcknfmciebaaGreatDoorBusPlaysJ03
import Derived.Test.YtnllcknfmciebaaGreatDoorBusPlaysJ31
import Derived.Test.YtnllcknfmciebaaGreatDoorBusPlaysJ36
namespace Go.Proofs.YtnllcknfmciebaaGreatDoor.P22
set_option maxRecDepth 20000
open Go.RowKit
set_option linter.unusedVariables false
theorem hasF_new3 (T:TypeId) (w:World) (x y:Obj) (N:Nat) (c:Nat→Value):HasF T (((w.alloc x).alloc y).alloc (.cells (rowF c N) T)) (w.heap.size+2) N c:=by
 have h:=hasF_new2 T (w.alloc x) y N c
 rw [show (w.alloc x).heap.size+1=w.heap.size+2 by simp] at h
 exact h
def hd4 (x0 x1 x2 x3:Int) (i:Nat):Int:=if i=0 then x0 else if i=1 then x1 else if i=2 then x2 else if i=3 then x3 else 0
theorem built_R (x0 x1 x2 x3:Int) (w:World):(Instr.build 75 #[(0,.int .i64 x0),(1,.int .i64 x1),(2,.int .i64 x2),(3,.int .i64 x3)]).run Tryz.prog w=.ok (.agg (rowF (iv (hd4 x0 x1 x2 x3)) 244)) w:=run_build w _ _ _ (by kernel_rfl)
def ownTo (f:Nat→Int) (k:Nat):Nat→Int:=fun i=>if i<4+k*40 then f i else 0
theorem own_0 (f:Nat→Int):hd4 (f 0) (f 1) (f 2) (f 3)=ownTo f 0:=by
 funext i
 unfold hd4 ownTo
 rcases (show i=0∨i=1∨i=2∨i=3∨4≤i by omega) with rfl|rfl|rfl|rfl|h
 ·rfl
 ·rfl
 ·rfl
 ·rfl
 ·rw [if_neg (by omega),if_neg (by omega),if_neg (by omega),if_neg (by omega),if_neg (by omega)]
theorem own_next (f:Nat→Int) (k:Nat):∀i,i<244→(if 4+k*40≤i∧i<4+k*40+40 then iv (fun j=>f (4+k*40+j)) (i-(4+k*40)) else iv (ownTo f k) i)=iv (ownTo f (k+1)) i:=fun i _=>by
 unfold iv ownTo
 by_cases h:4+k*40≤i∧i<4+k*40+40
 ·rw [if_pos h,if_pos (by omega)]
  show Value.int .i64 (f (4+k*40+(i-(4+k*40))))=.int .i64 (f i)
  rw [show 4+k*40+(i-(4+k*40))=i by omega]
 ·rw [if_neg h]
  by_cases h2:i<4+k*40
  ·rw [if_pos h2,if_pos (by omega)]
  ·rw [if_neg h2,if_neg (by omega)]
theorem own_6 (f:Nat→Int):rowF (iv (ownTo f 6)) 244=rowF (iv f) 244:=rowF_ext fun i hi=>by
 unfold iv ownTo
 rw [if_pos (by omega)]
set_option maxHeartbeats 4000000 in
theorem own_any (f:Nat→Int) (w:World):Calls Tryz.prog 21 #[.agg (rowF (iv f) 244)] w fun e w'=>e=Ending.returned (.agg (rowF (iv f) 244))∧Below w.heap.size w w':=by
 have e0:=rowF_at (iv f) 244 0 (by decide)
 have e1:=rowF_at (iv f) 244 1 (by decide)
 have e2:=rowF_at (iv f) 244 2 (by decide)
 have e3:=rowF_at (iv f) 244 3 (by decide)
 have P0:=hide (hasF_new 53 w 244 (iv f))
 have O6:=hide (own_6 f)
 simp only [iv] at e0 e1 e2 e3
 obtain ⟨R,hR⟩:∃R,R=rowF (iv f) 244:=⟨_,rfl⟩
 rw [←hR] at e0 e1 e2 e3 P0 ⊢
 replace hR:=hide hR
 go_enter Tryz.func21,Tryz.ntmps21
 go_wp2_with (first
  |(refine wpList_alloced rfl 75 rfl (rowF (iv fun _=>0) 244) zero_R ?_)
  |(refine wpList_built rfl 75 _ rfl #[(0,.int .i64 (f 0)),(1,.int .i64 (f 1)),(2,.int .i64 (f 2)),(3,.int .i64 (f 3))] (by simp [Act.eval]) (rowF (iv (hd4 (f 0) (f 1) (f 2) (f 3))) 244) (built_R _ _ _ _) ?_)
  |(refine wpList_store_row rfl 75 (.tmp 3) (.tmp 13) rfl (w.heap.size+2) (rowF (iv (hd4 (f 0) (f 1) (f 2) (f 3))) 244) (by simp [Act.eval,Act.put]) rfl 75 _ (hasF_new3 _ _ _ _ _ _) (info_R _) (by rw [rowF_size,rowF_size]) (rowF_one _ _) ?_
    refine under_list fun w2 hw2=>?_
    have O2:Hid (HasF 75 w2 (w.heap.size+2) 244 (iv (ownTo f 0))):=hide (by rw [hw2,←own_0];exact setRow_heap _ _ _ _ _ _ (hasF_new3 _ _ _ _ _ _))
    have P2:Hid (HasF 53 w2 w.heap.size 244 (iv f)):=hide (by rw [hw2];exact ((P0.out.next ((Below.refl _ _).alloc (Nat.le_refl _) _)).next ((Below.refl _ _).alloc (Nat.le_refl _) _)).row _ (by omega))
    have Z2:Hid (HasF 75 w2 (w.heap.size+1) 244 (iv fun _=>0)):=hide (by rw [hw2];exact ((hasF_new2 _ _ _ _ _).next ((Below.refl _ _).alloc (Nat.le_refl _) _)).row _ (by omega))
    have B2:Hid (Below w.heap.size w w2):=hide (by rw [hw2];exact below_setRow ((((Below.refl _ _).alloc (Nat.le_refl _) _).alloc (by simp) _).alloc (by simp;omega) _) (by omega) _)
    clear hw2 P0))
 obtain ⟨s0,hs0⟩:∃s,w.heap.size=s:=⟨_,rfl⟩
 rw [hs0] at O2 P2 Z2 B2 ⊢
 go_loopw [4] (fun v w'=>∃k:Nat,k≤6∧v=.int .i64 k∧HasF 75 w' (s0+2) 244 (iv (ownTo f k))∧HasF 53 w' s0 244 (iv f)∧HasF 75 w' (s0+1) 244 (iv fun _=>0)∧Below s0 w w') (fun v _=>6-(intOf v).toNat)
 case atStart=>exact ⟨0,by decide,rfl,O2.out,P2.out,Z2.out,B2.out⟩
 case round=>
  clear O2 P2 Z2 B2
  obtain ⟨k,hk,rfl,h1,h2,h3,h4⟩:=hrel
  have O1:=hide h1
  have P1:=hide h2
  have Z1:=hide h3
  have B1:=hide h4
  clear h1 h2 h3 h4
  by_cases hlt:k<6
  ·set_option maxRecDepth 20000 in
   go_wp2_with (first
     |(refine wpList_load_ints rfl 50 (.tmp 21) rfl s0 (4+k*40) rfl P1.out 40 (by omega) _ Tryz.underlying50 rfl info_40 ?_)
     |(refine wpList_store_part rfl 72 (.tmp 24) (.tmp 22) rfl (s0+2) (4+k*40) 40 (iv fun j=>f (4+k*40+j)) rfl rfl O1.out (by omega) info_D40 (fun _ _=>rfl) ?_
       refine under_list fun w6 hw6=>?_
       have b6:But (s0+2) wr w6:=(by rw [hw6];exact But.cells _ _ _ (But.refl _ _))
       have O6:Hid (HasF 75 w6 (s0+2) 244 (iv (ownTo f (k+1)))):=hide (by rw [hw6];exact (O1.out.cells _ _ _).ext (own_next f k))
       have P6:=hide (b6.keep P1.out (by omega))
       have Z6:=hide (b6.keep Z1.out (by omega))
       have B6:=hide (bbut B1.out b6 (by omega) (by omega))
       clear b6 hw6 O1 P1 Z1 B1))
   exact ⟨⟨k+1,by omega,by go_num,O6.out,P6.out,Z6.out,B6.out⟩,by simp [intOf];omega⟩
  ·obtain rfl:k=6:=by omega
   rw [HasF,O6.out,←hR.out] at O1
   have RI:Hid ((Tryz.prog.info? 75).map (·.size)=some R.size):=hide (by rw [hR.out];exact info_R _)
   have RS:Hid ((rowF (iv fun _=>0) 244).size=R.size):=hide (by rw [hR.out,rowF_size,rowF_size])
   have RO:Hid (R.all (·.oneCell')=true):=hide (by rw [hR.out];exact rowF_one _ _)
   go_wp2_with (first
     |(refine wpList_load_row rfl 75 (.tmp 3) rfl (s0+2) rfl _ _ _ _ O1.out Tryz.underlying75 rfl RI.out ?_)
     |(refine wpList_store_row rfl 75 (.tmp 2) (.tmp 25) rfl (s0+1) R rfl rfl 75 _ Z1.out RI.out RS.out RO.out ?_))
   refine bodyPost_ret (results_cell_row rfl _ _ (s0+1) 75 _ (0,0) _ rfl (setRow_heap _ _ _ _ _ _ Z1.out) Tryz.underlying75 rfl RI.out) rfl ?_
   exact ⟨rfl,by rw [hs0];exact below_setRow B1.out (Nat.le_succ _) _⟩
end Go.Proofs.YtnllcknfmciebaaGreatDoor.P22
namespace Go.Proofs.YtnllcknfmciebaaGreatDoor.L24
set_option maxRecDepth 20000
open B4 C3 D24 G6 I11 J23 M5 P22 R15 T10 V12 W13
open Go.RowKit
set_option linter.unusedVariables false
theorem neq_8 (g:Nat→Int) (w:World):(binOp .neq 43 (.agg (rowF (iv g) 8)) (.agg (rowF (iv g) 8))).run Tryz.prog w=.ok (.bool false) w:=
 neq_false w (same_ints Tryz.underlying43 Tryz.underlying3 (i:=Tryz.t3) (by kernel_rfl) (by kernel_rfl) g 9998 w)
theorem neq_256 (g:Nat→Int) (w:World):(binOp .neq 38 (.agg (rowF (iv g) 256)) (.agg (rowF (iv g) 256))).run Tryz.prog w=.ok (.bool false) w:=
 neq_false w (same_ints Tryz.underlying38 Tryz.underlying3 (i:=Tryz.t3) (by kernel_rfl) (by kernel_rfl) g 9998 w)
theorem neq_regs (f:Nat→Int) (w:World):(binOp .neq 69 (.agg (rowF (iv f) 21)) (.agg (rowF (iv f) 21))).run Tryz.prog w=.ok (.bool false) w:=by
 refine neq_false w (same_struct (fs:=_) Tryz.underlying69 (by kernel_rfl) 9999 w fun q hq=>?_)
 simp only [List.mem_cons,List.not_mem_nil,or_false] at hq
 rcases hq with rfl|rfl
 ·exact ⟨_,part_int Tryz.underlying3 f 21 0 (by decide) w,by rw [run_equalIn_int w 9998 3 .i64 .i64 _ _ Tryz.underlying3];simp⟩
 ·exact ⟨_,part_row (t:=34) Tryz.underlying34 rfl (M:=20) (by kernel_rfl) (iv f) 21 1 (by decide) w,same_ints Tryz.underlying34 Tryz.underlying3 (i:=Tryz.t3) (by kernel_rfl) (by kernel_rfl) (fun j=>f (1+j)) 9997 w⟩
theorem neq_vce (f:Nat→Int) (w:World):(binOp .neq 71 (.agg (rowF (iv f) 514)) (.agg (rowF (iv f) 514))).run Tryz.prog w=.ok (.bool false) w:=by
 refine neq_false w (same_struct (fs:=_) Tryz.underlying71 (by kernel_rfl) 9999 w fun q hq=>?_)
 simp only [List.mem_cons,List.not_mem_nil,or_false] at hq
 rcases hq with rfl|rfl|rfl
 ·exact ⟨_,part_int Tryz.underlying3 f 514 0 (by decide) w,by rw [run_equalIn_int w 9998 3 .i64 .i64 _ _ Tryz.underlying3];simp⟩
 ·exact ⟨_,part_int Tryz.underlying3 f 514 1 (by decide) w,by rw [run_equalIn_int w 9998 3 .i64 .i64 _ _ Tryz.underlying3];simp⟩
 ·exact ⟨_,part_row (t:=45) Tryz.underlying45 rfl (M:=512) (by kernel_rfl) (iv f) 514 2 (by decide) w,same_ints Tryz.underlying45 Tryz.underlying3 (i:=Tryz.t3) (by kernel_rfl) (by kernel_rfl) (fun j=>f (2+j)) 9997 w⟩
theorem neq_tim (r n p:Int) (o:Bool) (w:World):(binOp .neq 76 (.agg #[.int .i64 r,.int .i64 n,.bool o,.int .i64 p]) (.agg #[.int .i64 r,.int .i64 n,.bool o,.int .i64 p])).run Tryz.prog w=.ok (.bool false) w:=by
 refine neq_false w (same_struct (fs:=_) Tryz.underlying76 (by kernel_rfl) 9999 w fun q hq=>?_)
 simp only [List.mem_cons,List.not_mem_nil,or_false] at hq
 rcases hq with rfl|rfl|rfl|rfl
 ·exact ⟨.int .i64 r,by kernel_rfl,by rw [run_equalIn_int w 9998 3 .i64 .i64 _ _ Tryz.underlying3];simp⟩
 ·exact ⟨.int .i64 n,by kernel_rfl,by rw [run_equalIn_int w 9998 3 .i64 .i64 _ _ Tryz.underlying3];simp⟩
 ·exact ⟨.bool o,by kernel_rfl,by rw [run_equalIn_bool w 9998 4 _ _ Tryz.underlying4];simp⟩
 ·exact ⟨.int .i64 p,by kernel_rfl,by rw [run_equalIn_int w 9998 3 .i64 .i64 _ _ Tryz.underlying3];simp⟩
theorem neq_port (x y z:Bool) (p:Int) (w:World):(binOp .neq 77 (.agg #[.bool x,.bool y,.bool z,.int .i64 p]) (.agg #[.bool x,.bool y,.bool z,.int .i64 p])).run Tryz.prog w=.ok (.bool false) w:=by
 refine neq_false w (same_struct (fs:=_) Tryz.underlying77 (by kernel_rfl) 9999 w fun q hq=>?_)
 simp only [List.mem_cons,List.not_mem_nil,or_false] at hq
 rcases hq with rfl|rfl|rfl|rfl
 ·exact ⟨.bool x,by kernel_rfl,by rw [run_equalIn_bool w 9998 4 _ _ Tryz.underlying4];simp⟩
 ·exact ⟨.bool y,by kernel_rfl,by rw [run_equalIn_bool w 9998 4 _ _ Tryz.underlying4];simp⟩
 ·exact ⟨.bool z,by kernel_rfl,by rw [run_equalIn_bool w 9998 4 _ _ Tryz.underlying4];simp⟩
 ·exact ⟨.int .i64 p,by kernel_rfl,by rw [run_equalIn_int w 9998 3 .i64 .i64 _ _ Tryz.underlying3];simp⟩
theorem neq_irq (m l:Int) (w:World):(binOp .neq 57 (.agg #[.int .i64 m,.int .i64 l]) (.agg #[.int .i64 m,.int .i64 l])).run Tryz.prog w=.ok (.bool false) w:=by
 refine neq_false w (same_struct (fs:=_) Tryz.underlying57 (by kernel_rfl) 9999 w fun q hq=>?_)
 simp only [List.mem_cons,List.not_mem_nil,or_false] at hq
 rcases hq with rfl|rfl
 ·exact ⟨.int .i64 m,by kernel_rfl,by rw [run_equalIn_int w 9998 3 .i64 .i64 _ _ Tryz.underlying3];simp⟩
 ·exact ⟨.int .i64 l,by kernel_rfl,by rw [run_equalIn_int w 9998 3 .i64 .i64 _ _ Tryz.underlying3];simp⟩
theorem neq_psg (f:Nat→Int) (w:World):(binOp .neq 75 (.agg (rowF (iv f) 244)) (.agg (rowF (iv f) 244))).run Tryz.prog w=.ok (.bool false) w:=neq_false w (P22.rpsg_self f 9995 w)
theorem range_seg {T:TypeId} {w:World} {b N:Nat} {L:List (Nat×(Nat→Value))} (h:HasF T w b N (segs L)) (k:Nat) {n:Nat} {f:Nat→Value} (hk:L[k]? = some (n,f)) {a:Nat} (ha:soff L k=a) (hN:a+n≤N):w.rangeAt b a (rowF f n).toList:=by
 have r:=h.range a n hN
 rwa [rowF_ext (h.seg k hk ha)] at r
def findRegion (k:Nat):Code→Option Code
 |.region n l m=>if n=k then some (.region n l m) else none
 |.block _ c=>findRegion k c
 |.loop c=>findRegion k c
 |.scope c=>findRegion k c
 |.seq a b=>match findRegion k a with|some c=>some c|none=>findRegion k b
 |.cond _ a b=>match findRegion k a with|some c=>some c|none=>findRegion k b
 |_=>none
end Go.Proofs.YtnllcknfmciebaaGreatDoor.L24
