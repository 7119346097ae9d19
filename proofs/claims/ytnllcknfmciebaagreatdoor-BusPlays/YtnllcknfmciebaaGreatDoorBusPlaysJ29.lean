/- The program's machine: words that are moved. -/
import Derived.Test.YtnllcknfmciebaaGreatDoorBusPlaysJ23
import Derived.Test.YtnllcknfmciebaaGreatDoorBusPlaysJ28
import Derived.Test.YtnllcknfmciebaaGreatDoorBusPlaysJ24
namespace Go.Proofs.YtnllcknfmciebaaGreatDoor.L24
set_option maxRecDepth 20000
open B4 C3 G6 R15 W13
open Go.RowKit
set_option linter.unusedVariables false
theorem zero_2 (w:World):(zeroValue 222).run Tryz.prog w=.ok (.agg #[.int .i64 0,.int .i64 0]) w:=by kernel_rfl
def mvV (b v:Nat) (u:Nat→Int) (X Y:Int) (i:Nat) (y:Value):Prop:=match i with
 |0=>y=.pointer (some ⟨b,0,none⟩)
 |1=>y=.pointer (some ⟨b,0,none⟩)
 |2=>y=.pointer (some ⟨b,0,none⟩)
 |3=>y=.pointer (some ⟨b,21,none⟩)
 |4=>y=.pointer (some ⟨v,0,none⟩)
 |5=>y=.pointer (some ⟨b,1,none⟩)
 |6=>y=.pointer (some ⟨b,1,none⟩)
 |7=>y=.pointer (some ⟨b,17,none⟩)
 |8=>y=.int .i64 (u 17)
 |9=>y=.pointer (some ⟨b,1,none⟩)
 |10=>y=.pointer (some ⟨b,1,none⟩)
 |11=>y=.pointer (some ⟨b,18,none⟩)
 |12=>y=.int .i64 (u 18)
 |13=>y=.agg #[.int .i64 (u 17),.int .i64 (u 18)]
 |14=>y=.pointer (some ⟨b,1,none⟩)
 |15=>y=.pointer (some ⟨b,1,none⟩)
 |16=>y=.pointer (some ⟨b,19,none⟩)
 |17=>y=.int .i64 (u 19)
 |18=>y=.pointer (some ⟨b,1,none⟩)
 |19=>y=.pointer (some ⟨b,1,none⟩)
 |20=>y=.pointer (some ⟨b,16,none⟩)
 |21=>y=.int .i64 (u 16)
 |22=>y=.agg #[.int .i64 X,.int .i64 Y]
 |23=>∃z,y=.pointer (some ⟨z,0,none⟩)
 |_=>True
def mvS (W:World) (A:World→Prop) (O:World→Prop) (X Y:Int) (vals:Nat→Value) (d:Nat→Bool) (w:World):Prop:=
 (d 22=false→Below W.heap.size W w)∧(d 22=true→A w∧O w)∧(d 23=true→∃z,vals 23=.pointer (some ⟨z,0,none⟩)∧W.heap.size≤z∧w.heap[z]? = some (.cells (if d 24=true then #[.int .i64 X,.int .i64 Y] else #[.int .i64 0,.int .i64 0]) 222 (0,0)))
theorem mvS_keep {W:World} {A O:World→Prop} {X Y:Int} {vals:Nat→Value} {d:Nat→Bool} {w:World} {i:Nat} {y:Value} (h22:¬22=i) (h23:¬23=i) (h24:¬24=i) (h:mvS W A O X Y vals d w):mvS W A O X Y (updV vals i y) (updD d i) w:=by
 unfold mvS
 rw [updD_other _ h22,updD_other _ h23,updD_other _ h24,updV_other _ _ h23]
 exact h
theorem mvS_call {W:World} {A O:World→Prop} {X Y:Int} {vals:Nat→Value} {d:Nat→Bool} {w:World} {y:Value} (hA:A w) (hO:O w) (h:d 23=true→∃z,vals 23=.pointer (some ⟨z,0,none⟩)∧W.heap.size≤z∧w.heap[z]? = some (.cells (if d 24=true then #[.int .i64 X,.int .i64 Y] else #[.int .i64 0,.int .i64 0]) 222 (0,0))):mvS W A O X Y (updV vals 22 y) (updD d 22) w:=by
 unfold mvS
 rw [updD_same,updD_other _ (by decide),updD_other _ (by decide),updV_other _ _ (by decide)]
 exact ⟨fun e=>(by cases e),fun _=>⟨hA,hO⟩,h⟩
theorem mvS_alloc {W:World} {b v c d':Nat} {L:List (Nat×(Nat→Value))} {bs:List Int} {f:Nat→Int} {wr rd st lo bu:Int} {X Y:Int} {vals:Nat→Value} {d:Nat→Bool} {w:World} (h:mvS W (fun w=>HasX w b v c d' L bs f wr rd st lo bu) (fun w=>OnlyE (EX b v) W w) X Y vals d w) (h24:d 24=false):
  mvS W (fun w=>HasX w b v c d' L bs f wr rd st lo bu) (fun w=>OnlyE (EX b v) W w) X Y (updV vals 23 (.pointer (some ⟨w.heap.size,0,none⟩))) (updD d 23) (w.alloc (.cells #[.int .i64 0,.int .i64 0] 222)):=by
 have bb:=(Below.refl _ w).alloc (Nat.le_refl _) (.cells #[.int .i64 0,.int .i64 0] 222)
 unfold mvS
 rw [updD_other _ (by decide),updD_same,updD_other _ (by decide),updV_same,h24]
 refine ⟨fun e=>bnext (h.1 e) bb,fun e=>⟨(h.2.1 e).1.next bb,(h.2.1 e).2.trans (ex_below bb)⟩,fun _=>⟨_,rfl,?_,heap_alloc_new _ _⟩⟩
 cases e:d 22 with
 |false=>exact (h.1 e).size
 |true=>exact (h.2.1 e).2.size
theorem mvS_store {W:World} {b v c d':Nat} {L:List (Nat×(Nat→Value))} {bs:List Int} {f:Nat→Int} {wr rd st lo bu:Int} {X Y:Int} {vals:Nat→Value} {d:Nat→Bool} {w:World} {z:Nat} {y:Value} (h:mvS W (fun w=>HasX w b v c d' L bs f wr rd st lo bu) (fun w=>OnlyE (EX b v) W w) X Y vals d w) (h22:d 22=true) (h23:d 23=true) (e1:vals 23=.pointer (some ⟨z,0,none⟩)) (e2:W.heap.size≤z) (e3:w.heap[z]? = some (.cells #[.int .i64 0,.int .i64 0] 222 (0,0))) (hz:∀k,(k=b∨k=v∨k=c∨k=d'∨k=2∨k=1∨k=3)→k<W.heap.size):
  mvS W (fun w=>HasX w b v c d' L bs f wr rd st lo bu) (fun w=>OnlyE (EX b v) W w) X Y (updV vals 24 y) (updD d 24) (w.setRow z #[.int .i64 X,.int .i64 Y]):=by
 have ne:∀k,(k=b∨k=v∨k=c∨k=d'∨k=2∨k=1∨k=3)→k≠z:=fun k hk e=>by have:=hz k hk;omega
 obtain ⟨x0,o0⟩:=h.2.1 h22
 have oz:OnlyE (fun i=>i=z) w (w.setRow z #[.int .i64 X,.int .i64 Y]):=⟨rfl,rfl,rfl,by simp [World.setRow],fun i hi hE=>setRow_other w z i _ hE⟩
 unfold mvS
 rw [updD_other _ (by decide),updD_other _ (by decide),updD_same,updV_other _ _ (by decide),h22,h23]
 refine ⟨fun e=>(by cases e),fun _=>⟨?_,?_⟩,fun _=>⟨z,e1,e2,?_⟩⟩
 ·obtain ⟨q1,q2,q3,q4,q5⟩:=x0
  refine ⟨oz.obj q1 (ne b (.inl rfl)),oz.obj q2 (ne v (.inr (.inl rfl))),q3.only oz (ne c (.inr (.inr (.inl rfl)))) (ne d' (.inr (.inr (.inr (.inl rfl))))),?_,q5⟩
  obtain ⟨⟨t0,f0,k0⟩,⟨t1,f1,k1⟩,⟨t2,f2,k2⟩⟩:=q4
  exact ⟨⟨t0,f0,oz.obj k0 (ne _ (.inr (.inr (.inr (.inr (.inl rfl))))))⟩,⟨t1,f1,oz.obj k1 (ne _ (.inr (.inr (.inr (.inr (.inr (.inl rfl)))))))⟩,⟨t2,f2,oz.obj k2 (ne _ (.inr (.inr (.inr (.inr (.inr (.inr rfl)))))))⟩⟩
 ·exact o0.setRow z e2 _
 ·exact setRow_heap _ _ _ _ _ _ e3
def stg (u:Nat→Int) (X Y:Int) (d:Nat→Bool):Nat→Int:=bif d 15 then up (bif d 12 then up (bif d 9 then up u 17 X else u) 18 Y else (bif d 9 then up u 17 X else u)) 19 65535 else (bif d 12 then up (bif d 9 then up u 17 X else u) 18 Y else (bif d 9 then up u 17 X else u))
def stgS (W:World) (b:Nat) (L:List (Nat×(Nat→Value))) (u:Nat→Int) (X Y:Int) (d:Nat→Bool) (w:World):Prop:=HasF 64 w b 9263 (segs (L.set 0 (21,iv (stg u X Y d))))∧But b W w
theorem stgS_keep {W:World} {b:Nat} {L:List (Nat×(Nat→Value))} {u:Nat→Int} {X Y:Int} {d:Nat→Bool} {w:World} {i:Nat} (h9:¬9=i) (h12:¬12=i) (h15:¬15=i) (h:stgS W b L u X Y d w):stgS W b L u X Y (updD d i) w:=by
 unfold stgS stg
 rw [updD_other _ h9,updD_other _ h12,updD_other _ h15]
 exact h
set_option maxHeartbeats 4000000 in
theorem busMove_is {w:World} {b v c d:Nat} {L:List (Nat×(Nat→Value))} {bs:List Int} {f:Nat→Int} {wr rd st lo bu:Int} (h:HasX w b v c d L bs f wr rd st lo bu) {u:Nat→Int} (h0:L[0]? = some (21,iv u)) {X Y:Int} {F:Nat→Int}
  (KV:∀w,HasM w v true f wr rd st lo bu→Calls Tryz.prog 158 #[.pointer (some ⟨v,0,none⟩),.agg #[.int .i64 (u 17),.int .i64 (u 18)],.int .i64 (u 19),.int .i64 (u 16)] w fun e w'=>e=Ending.returned (.agg #[.int .i64 X,.int .i64 Y])∧HasM w' v true F wr rd st lo bu∧Only v w w') (hb:∀k,(k=b∨k=v∨k=c∨k=d∨k=2∨k=1∨k=3)→k<w.heap.size)
  {my:Bool} (hmy:(bitOf (u 16) 1==1)=my) {R:World→Prop} (KT:∀w,HasX w b v c d (L.set 0 (21,iv (up (up (up u 17 X) 18 Y) 19 65535))) bs F wr rd st lo bu→Calls Tryz.prog 11 #[.pointer (some ⟨b,0,none⟩),.int .i64 16,.bool my] w fun e w'=>e=Ending.returned (.tuple #[])∧R w'∧OnlyE (EX b v) w w'):
  Calls Tryz.prog 132 #[.pointer (some ⟨b,0,none⟩)] w fun e w'=>e=Ending.returned (.tuple #[])∧R w'∧OnlyE (EX b v) w w':=by
 have KM:=hide KV
 have TK:=hide KT
 have HE:=hide h
 have E0:=hide h0
 have HB:=hide h.isB
 have HZ:=hide hb
 have MY:=hide hmy
 have HL:=hide h.1.lt
 have VL:=hide h.2.1.lt
 have S0:=hide h.2.2.2.2.2.2.2.2.2
 have c1:=h.1.get1 1 h.2.2.2.2.2.1 (a:=21) (h.isB.off 1 rfl) (by decide)
 have c16:w.cell? ⟨b,16,none⟩=some (.int .i64 (u 16)):=h.1.get 0 h0 16 (by decide) (a:=16) (by rw [h.isB.off 0 (a:=0) rfl]) (by decide)
 have c17:w.cell? ⟨b,17,none⟩=some (.int .i64 (u 17)):=h.1.get 0 h0 17 (by decide) (a:=17) (by rw [h.isB.off 0 (a:=0) rfl]) (by decide)
 have c18:w.cell? ⟨b,18,none⟩=some (.int .i64 (u 18)):=h.1.get 0 h0 18 (by decide) (a:=18) (by rw [h.isB.off 0 (a:=0) rfl]) (by decide)
 have c19:w.cell? ⟨b,19,none⟩=some (.int .i64 (u 19)):=h.1.get 0 h0 19 (by decide) (a:=19) (by rw [h.isB.off 0 (a:=0) rfl]) (by decide)
 clear h h0 KV KT hb hmy
 go_enter Tryz.func132,Tryz.ntmps132
 go_wp2_with fail
 refine wp_region_vals (mvV b v u X Y) (mvS w (fun w=>HasX w b v c d L bs F wr rd st lo bu) (fun x=>OnlyE (EX b v) w x) X Y) _ (fun vals=>by simp only [putAll,Act.put,List.setIfInBounds_toArray,List.set_cons_succ,List.set_cons_zero,Nat.reduceAdd];rfl) (by kernel_rfl) (by kernel_rfl) (by kernel_rfl) (fun vals dn hd=>⟨fun _=>(Below.refl _ _).drew,fun e=>(by rw [hd] at e;cases e),fun e=>(by rw [hd] at e;cases e)⟩) ?_ ?_
 ·refine stepsW_cons (fun vals dn x hi hc hk hs=>?_) (stepsW_cons (fun vals dn x hi hc hk hs=>?_) (stepsW_cons (fun vals dn x hi hc hk hs=>?_) (stepsW_cons (fun vals dn x hi hc hk hs=>?_) (stepsW_cons (fun vals dn x hi hc hk hs=>?_) (stepsW_cons (fun vals dn x hi hc hk hs=>?_) (stepsW_cons (fun vals dn x hi hc hk hs=>?_) (stepsW_cons (fun vals dn x hi hc hk hs=>?_) (stepsW_cons (fun vals dn x hi hc hk hs=>?_) (stepsW_cons (fun vals dn x hi hc hk hs=>?_) (stepsW_cons (fun vals dn x hi hc hk hs=>?_) (stepsW_cons (fun vals dn x hi hc hk hs=>?_) (stepsW_cons (fun vals dn x hi hc hk hs=>?_) (stepsW_cons (fun vals dn x hi hc hk hs=>?_) (stepsW_cons (fun vals dn x hi hc hk hs=>?_) (stepsW_cons (fun vals dn x hi hc hk hs=>?_) (stepsW_cons (fun vals dn x hi hc hk hs=>?_) (stepsW_cons (fun vals dn x hi hc hk hs=>?_) (stepsW_cons (fun vals dn x hi hc hk hs=>?_) (stepsW_cons (fun vals dn x hi hc hk hs=>?_) (stepsW_cons (fun vals dn x hi hc hk hs=>?_) (stepsW_cons (fun vals dn x hi hc hk hs=>?_) (stepsW_cons (fun vals dn x hi hc hk hs=>?_) (stepsW_cons (fun vals dn x hi hc hk hs=>?_) (stepsW_cons (fun vals dn x hi hc hk hs=>?_) stepsW_nil))))))))))))))))))))))))
  ·have hd:=not_yet hc hi 22 40 (by kernel_rfl)
   have hb:=hs.1 hd
   go_wp2_with fail
   exact postW_mk _ rfl rfl (mvS_keep (by decide) (by decide) (by decide) hs)
  ·obtain ⟨⟨(h0:vals 0=.pointer (some ⟨b,0,none⟩)),t0⟩,_⟩:=hk
   simp only [h0]
   clear h0
   have hd:=not_yet hc hi 22 40 (by kernel_rfl)
   have hb:=hs.1 hd
   go_wp2_with fail
   exact postW_mk _ rfl rfl (mvS_keep (by decide) (by decide) (by decide) hs)
  ·obtain ⟨⟨(h1:vals 1=.pointer (some ⟨b,0,none⟩)),t1⟩,_⟩:=hk
   simp only [h1]
   clear h1
   have hd:=not_yet hc hi 22 40 (by kernel_rfl)
   have hb:=hs.1 hd
   go_wp2_with fail
   exact postW_mk _ rfl rfl (mvS_keep (by decide) (by decide) (by decide) hs)
  ·obtain ⟨⟨(h2:vals 2=.pointer (some ⟨b,0,none⟩)),t2⟩,_⟩:=hk
   simp only [h2]
   clear h2
   have hd:=not_yet hc hi 22 40 (by kernel_rfl)
   have hb:=hs.1 hd
   go_wp2_with fail
   exact postW_mk _ rfl rfl (mvS_keep (by decide) (by decide) (by decide) hs)
  ·obtain ⟨⟨(h3:vals 3=.pointer (some ⟨b,21,none⟩)),t3⟩,_⟩:=hk
   simp only [h3]
   clear h3
   have hd:=not_yet hc hi 22 40 (by kernel_rfl)
   have hb:=hs.1 hd
   have q:=(hb.cell (p:=⟨b,21,none⟩) HL.out).trans c1
   go_wp2_with fail
   exact postW_mk _ rfl rfl (mvS_keep (by decide) (by decide) (by decide) hs)
  ·have hd:=not_yet hc hi 22 40 (by kernel_rfl)
   have hb:=hs.1 hd
   go_wp2_with fail
   exact postW_mk _ rfl rfl (mvS_keep (by decide) (by decide) (by decide) hs)
  ·obtain ⟨⟨(h5:vals 5=.pointer (some ⟨b,1,none⟩)),t5⟩,_⟩:=hk
   simp only [h5]
   clear h5
   have hd:=not_yet hc hi 22 40 (by kernel_rfl)
   have hb:=hs.1 hd
   go_wp2_with fail
   exact postW_mk _ rfl rfl (mvS_keep (by decide) (by decide) (by decide) hs)
  ·obtain ⟨⟨(h6:vals 6=.pointer (some ⟨b,1,none⟩)),t6⟩,_⟩:=hk
   simp only [h6]
   clear h6
   have hd:=not_yet hc hi 22 40 (by kernel_rfl)
   have hb:=hs.1 hd
   go_wp2_with fail
   exact postW_mk _ rfl rfl (mvS_keep (by decide) (by decide) (by decide) hs)
  ·obtain ⟨⟨(h7:vals 7=.pointer (some ⟨b,17,none⟩)),t7⟩,_⟩:=hk
   simp only [h7]
   clear h7
   have hd:=not_yet hc hi 22 40 (by kernel_rfl)
   have hb:=hs.1 hd
   have q:=(hb.cell (p:=⟨b,17,none⟩) HL.out).trans c17
   go_wp2_with fail
   exact postW_mk _ rfl rfl (mvS_keep (by decide) (by decide) (by decide) hs)
  ·have hd:=not_yet hc hi 22 40 (by kernel_rfl)
   have hb:=hs.1 hd
   go_wp2_with fail
   exact postW_mk _ rfl rfl (mvS_keep (by decide) (by decide) (by decide) hs)
  ·obtain ⟨⟨(h9:vals 9=.pointer (some ⟨b,1,none⟩)),t9⟩,_⟩:=hk
   simp only [h9]
   clear h9
   have hd:=not_yet hc hi 22 40 (by kernel_rfl)
   have hb:=hs.1 hd
   go_wp2_with fail
   exact postW_mk _ rfl rfl (mvS_keep (by decide) (by decide) (by decide) hs)
  ·obtain ⟨⟨(h10:vals 10=.pointer (some ⟨b,1,none⟩)),t10⟩,_⟩:=hk
   simp only [h10]
   clear h10
   have hd:=not_yet hc hi 22 40 (by kernel_rfl)
   have hb:=hs.1 hd
   go_wp2_with fail
   exact postW_mk _ rfl rfl (mvS_keep (by decide) (by decide) (by decide) hs)
  ·obtain ⟨⟨(h11:vals 11=.pointer (some ⟨b,18,none⟩)),t11⟩,_⟩:=hk
   simp only [h11]
   clear h11
   have hd:=not_yet hc hi 22 40 (by kernel_rfl)
   have hb:=hs.1 hd
   have q:=(hb.cell (p:=⟨b,18,none⟩) HL.out).trans c18
   go_wp2_with fail
   exact postW_mk _ rfl rfl (mvS_keep (by decide) (by decide) (by decide) hs)
  ·obtain ⟨⟨(h8:vals 8=.int .i64 (u 17)),t8⟩,⟨(h12:vals 12=.int .i64 (u 18)),t12⟩,_⟩:=hk
   simp only [h8,h12]
   clear h8 h12
   have hd:=not_yet hc hi 22 40 (by kernel_rfl)
   have hb:=hs.1 hd
   go_wp2_with fail
   exact postW_mk _ rfl rfl (mvS_keep (by decide) (by decide) (by decide) hs)
  ·have hd:=not_yet hc hi 22 40 (by kernel_rfl)
   have hb:=hs.1 hd
   go_wp2_with fail
   exact postW_mk _ rfl rfl (mvS_keep (by decide) (by decide) (by decide) hs)
  ·obtain ⟨⟨(h14:vals 14=.pointer (some ⟨b,1,none⟩)),t14⟩,_⟩:=hk
   simp only [h14]
   clear h14
   have hd:=not_yet hc hi 22 40 (by kernel_rfl)
   have hb:=hs.1 hd
   go_wp2_with fail
   exact postW_mk _ rfl rfl (mvS_keep (by decide) (by decide) (by decide) hs)
  ·obtain ⟨⟨(h15:vals 15=.pointer (some ⟨b,1,none⟩)),t15⟩,_⟩:=hk
   simp only [h15]
   clear h15
   have hd:=not_yet hc hi 22 40 (by kernel_rfl)
   have hb:=hs.1 hd
   go_wp2_with fail
   exact postW_mk _ rfl rfl (mvS_keep (by decide) (by decide) (by decide) hs)
  ·obtain ⟨⟨(h16:vals 16=.pointer (some ⟨b,19,none⟩)),t16⟩,_⟩:=hk
   simp only [h16]
   clear h16
   have hd:=not_yet hc hi 22 40 (by kernel_rfl)
   have hb:=hs.1 hd
   have q:=(hb.cell (p:=⟨b,19,none⟩) HL.out).trans c19
   go_wp2_with fail
   exact postW_mk _ rfl rfl (mvS_keep (by decide) (by decide) (by decide) hs)
  ·have hd:=not_yet hc hi 22 40 (by kernel_rfl)
   have hb:=hs.1 hd
   go_wp2_with fail
   exact postW_mk _ rfl rfl (mvS_keep (by decide) (by decide) (by decide) hs)
  ·obtain ⟨⟨(h18:vals 18=.pointer (some ⟨b,1,none⟩)),t18⟩,_⟩:=hk
   simp only [h18]
   clear h18
   have hd:=not_yet hc hi 22 40 (by kernel_rfl)
   have hb:=hs.1 hd
   go_wp2_with fail
   exact postW_mk _ rfl rfl (mvS_keep (by decide) (by decide) (by decide) hs)
  ·obtain ⟨⟨(h19:vals 19=.pointer (some ⟨b,1,none⟩)),t19⟩,_⟩:=hk
   simp only [h19]
   clear h19
   have hd:=not_yet hc hi 22 40 (by kernel_rfl)
   have hb:=hs.1 hd
   go_wp2_with fail
   exact postW_mk _ rfl rfl (mvS_keep (by decide) (by decide) (by decide) hs)
  ·obtain ⟨⟨(h20:vals 20=.pointer (some ⟨b,16,none⟩)),t20⟩,_⟩:=hk
   simp only [h20]
   clear h20
   have hd:=not_yet hc hi 22 40 (by kernel_rfl)
   have hb:=hs.1 hd
   have q:=(hb.cell (p:=⟨b,16,none⟩) HL.out).trans c16
   go_wp2_with fail
   exact postW_mk _ rfl rfl (mvS_keep (by decide) (by decide) (by decide) hs)
  ·obtain ⟨⟨(h4:vals 4=.pointer (some ⟨v,0,none⟩)),t4⟩,⟨(h13:vals 13=.agg #[.int .i64 (u 17),.int .i64 (u 18)]),t13⟩,⟨(h17:vals 17=.int .i64 (u 19)),t17⟩,⟨(h21:vals 21=.int .i64 (u 16)),t21⟩,_⟩:=hk
   simp only [h4,h13,h17,h21]
   clear h4 h13 h17 h21
   have hb:=hs.1 hi
   have x6:=HE.out.next hb
   go_wp2_with fail
   refine (KM.out _ x6.2.1).mono ?_
   rintro e x2 ⟨rfl,h2,o2⟩
   have r2:=x6.vram o2 h2 S0.out
   have q2:=(ex_below (b:=b) (v:=v) hb).trans (ex_only o2)
   have s2:=hs.2.2
   clear h2 x6
   go_wp2_with fail
   exact postW_mk _ rfl rfl (mvS_call r2 q2 (fun h=>by obtain ⟨z,e1,e2,e3⟩:=s2 h;exact ⟨z,e1,e2,o2.obj e3 (by have:=VL.out;omega)⟩))
  ·refine wpList_alloced rfl 222 rfl #[.int .i64 0,.int .i64 0] zero_2 ?_
   exact postW_mk _ rfl ⟨_,rfl⟩ (mvS_alloc hs (not_yet hc hi 24 40 (by kernel_rfl)))
  ·obtain ⟨⟨h23,t23⟩,⟨(h22:vals 22=.agg #[.int .i64 X,.int .i64 Y]),t22⟩,_,⟨(h0:vals 0=.pointer (some ⟨b,0,none⟩)),t0⟩,⟨(h1:vals 1=.pointer (some ⟨b,0,none⟩)),t1⟩,⟨(h2:vals 2=.pointer (some ⟨b,0,none⟩)),t2⟩,⟨(h3:vals 3=.pointer (some ⟨b,21,none⟩)),t3⟩,⟨(h4:vals 4=.pointer (some ⟨v,0,none⟩)),t4⟩,⟨(h5:vals 5=.pointer (some ⟨b,1,none⟩)),t5⟩,⟨(h6:vals 6=.pointer (some ⟨b,1,none⟩)),t6⟩,⟨(h7:vals 7=.pointer (some ⟨b,17,none⟩)),t7⟩,⟨(h8:vals 8=.int .i64 (u 17)),t8⟩,⟨(h9:vals 9=.pointer (some ⟨b,1,none⟩)),t9⟩,⟨(h10:vals 10=.pointer (some ⟨b,1,none⟩)),t10⟩,⟨(h11:vals 11=.pointer (some ⟨b,18,none⟩)),t11⟩,⟨(h12:vals 12=.int .i64 (u 18)),t12⟩,⟨(h13:vals 13=.agg #[.int .i64 (u 17),.int .i64 (u 18)]),t13⟩,⟨(h14:vals 14=.pointer (some ⟨b,1,none⟩)),t14⟩,⟨(h15:vals 15=.pointer (some ⟨b,1,none⟩)),t15⟩,⟨(h16:vals 16=.pointer (some ⟨b,19,none⟩)),t16⟩,⟨(h17:vals 17=.int .i64 (u 19)),t17⟩,⟨(h18:vals 18=.pointer (some ⟨b,1,none⟩)),t18⟩,⟨(h19:vals 19=.pointer (some ⟨b,1,none⟩)),t19⟩,⟨(h20:vals 20=.pointer (some ⟨b,16,none⟩)),t20⟩,⟨(h21:vals 21=.int .i64 (u 16)),t21⟩,_,_,_⟩:=hk
   simp only [h22]
   obtain ⟨z,e1,e2,e3⟩:=hs.2.2 t23
   simp only [e1]
   have e4:x.heap[z]? = some (.cells #[.int .i64 0,.int .i64 0] 222 (0,0)):=by rw [hi] at e3;exact e3
   refine wpList_store_row rfl 222 (.tmp 3) (.tmp 31) rfl z _ rfl rfl 222 _ e4 (by kernel_rfl) rfl (by kernel_rfl) ?_
   exact postW_mk _ rfl trivial (mvS_store hs t22 t23 e1 e2 e4 HZ.out)
 rintro vals dn x hall hs hv
 obtain ⟨x1,o1⟩:=hs.2.1 (hall 22 (by decide))
 obtain ⟨z,e1,e2,e3⟩:=hs.2.2 (hall 23 (by decide))
 rw [hall 24 (by decide)] at e3
 simp only [e1]
 have X1:=hide x1
 have O1:=hide o1
 have MZ:=hide (show x.heap[z]? = some (.cells #[.int .i64 X,.int .i64 Y] 222 (0,0)) from e3)
 have NZ:=hide (show z≠b by have:=HL.out;omega)
 clear x1 o1 e1 e2 e3 hs hall c1 c16 c17 c18 c19 KM HE
 go_wp2_with fail
 refine wp_region_state (ofList [.pointer (some ⟨b,1,none⟩),.pointer (some ⟨b,1,none⟩),.pointer (some ⟨b,1,none⟩),.pointer (some ⟨z,0,none⟩),.int .i64 X,.pointer (some ⟨z,1,none⟩),.int .i64 Y,.pointer (some ⟨b,1,none⟩),.pointer (some ⟨b,17,none⟩),undef,.pointer (some ⟨b,1,none⟩),.pointer (some ⟨b,18,none⟩),undef,.pointer (some ⟨b,1,none⟩),.pointer (some ⟨b,19,none⟩),undef]) (stgS x b L u X Y) _ (fun vals=>by simp only [putAll,Act.put,List.setIfInBounds_toArray,List.set_cons_succ,List.set_cons_zero,Nat.reduceAdd];rfl) (by kernel_rfl) (by kernel_rfl) (by kernel_rfl) (fun dn hd=>⟨by unfold stg;rw [hd,hd,hd];show HasF 64 _ b 9263 (segs (L.set 0 (21,iv u)));rw [set_id E0.out];exact X1.out.1,(But.refl b x).drew⟩) ?_ ?_
 ·refine stepsS_cons (fun vals dn x hi hc hk hs=>?_) (stepsS_cons (fun vals dn x hi hc hk hs=>?_) (stepsS_cons (fun vals dn x hi hc hk hs=>?_) (stepsS_cons (fun vals dn x hi hc hk hs=>?_) (stepsS_cons (fun vals dn x hi hc hk hs=>?_) (stepsS_cons (fun vals dn x hi hc hk hs=>?_) (stepsS_cons (fun vals dn x hi hc hk hs=>?_) (stepsS_cons (fun vals dn x hi hc hk hs=>?_) (stepsS_cons (fun vals dn x hi hc hk hs=>?_) (stepsS_cons (fun vals dn x hi hc hk hs=>?_) (stepsS_cons (fun vals dn x hi hc hk hs=>?_) (stepsS_cons (fun vals dn x hi hc hk hs=>?_) (stepsS_cons (fun vals dn x hi hc hk hs=>?_) (stepsS_cons (fun vals dn x hi hc hk hs=>?_) (stepsS_cons (fun vals dn x hi hc hk hs=>?_) (stepsS_cons (fun vals dn x hi hc hk hs=>?_) stepsS_nil)))))))))))))))
  ·set_option maxRecDepth 20000 in
   go_wp2_with fail
   exact postS_mk _ rfl rfl (stgS_keep (by decide) (by decide) (by decide) hs)
  ·obtain ⟨_,_⟩:=hk
   go_wp2_with fail
   exact postS_mk _ rfl rfl (stgS_keep (by decide) (by decide) (by decide) hs)
  ·obtain ⟨_,_⟩:=hk
   go_wp2_with fail
   exact postS_mk _ rfl rfl (stgS_keep (by decide) (by decide) (by decide) hs)
  ·set_option maxRecDepth 20000 in
   go_wp2_with fail
   exact postS_mk _ rfl rfl (stgS_keep (by decide) (by decide) (by decide) hs)
  ·obtain ⟨⟨(h3:vals 3=.pointer (some ⟨z,0,none⟩)),t3⟩,_⟩:=hk
   simp only [h3]
   clear h3
   have q:=(cell_of_row x z 0 _ _ _ (hs.2.obj MZ.out NZ.out)).trans rfl
   go_wp2_with fail
   exact postS_mk _ rfl rfl (stgS_keep (by decide) (by decide) (by decide) hs)
  ·set_option maxRecDepth 20000 in
   go_wp2_with fail
   exact postS_mk _ rfl rfl (stgS_keep (by decide) (by decide) (by decide) hs)
  ·obtain ⟨⟨(h5:vals 5=.pointer (some ⟨z,1,none⟩)),t5⟩,_⟩:=hk
   simp only [h5]
   clear h5
   have q:=(cell_of_row x z 1 _ _ _ (hs.2.obj MZ.out NZ.out)).trans rfl
   go_wp2_with fail
   exact postS_mk _ rfl rfl (stgS_keep (by decide) (by decide) (by decide) hs)
  ·obtain ⟨⟨(h0:vals 0=.pointer (some ⟨b,1,none⟩)),t0⟩,_⟩:=hk
   simp only [h0]
   clear h0
   go_wp2_with fail
   exact postS_mk _ rfl rfl (stgS_keep (by decide) (by decide) (by decide) hs)
  ·obtain ⟨⟨(h7:vals 7=.pointer (some ⟨b,1,none⟩)),t7⟩,⟨(h0:vals 0=.pointer (some ⟨b,1,none⟩)),t0⟩,_,_,⟨(h3:vals 3=.pointer (some ⟨z,0,none⟩)),t3⟩,⟨(h4:vals 4=.int .i64 X),t4⟩,_,_,_⟩:=hk
   simp only [h7]
   clear h7 h0 h3 h4
   go_wp2_with fail
   exact postS_mk _ rfl rfl (stgS_keep (by decide) (by decide) (by decide) hs)
  ·obtain ⟨⟨(h8:vals 8=.pointer (some ⟨b,17,none⟩)),t8⟩,⟨(h4:vals 4=.int .i64 X),t4⟩,⟨(h0:vals 0=.pointer (some ⟨b,1,none⟩)),t0⟩,_,_,⟨(h3:vals 3=.pointer (some ⟨z,0,none⟩)),t3⟩,_,_,_,_⟩:=hk
   simp only [h8,h4]
   clear h8 h4 h0 h3
   have d12:=not_yet hc hi 12 40 (by kernel_rfl)
   have d15:=not_yet hc hi 15 40 (by kernel_rfl)
   have hst:stg u X Y dn=u:=by unfold stg;rw [hi,d12,d15];rfl
   have hst2:stg u X Y (updD dn 9)=up u 17 X:=by unfold stg;rw [updD_same dn 9,updD_other dn (show ¬12=9 by decide),updD_other dn (show ¬15=9 by decide),d12,d15];rfl
   have h1:=hs.1
   rw [hst] at h1
   have cc:=h1.get 0 (set_same E0.out _) 17 (by decide) (a:=17) (by rw [(HB.out.set E0.out _).off 0 (a:=0) rfl]) (by decide)
   have zz:=h1.frozen 17
   have h2:HasF 64 (x.setCell ⟨b,17,none⟩ (.int .i64 X)) b 9263 (segs (L.set 0 (21,iv (stg u X Y (updD dn 9))))):=by
    have k:=h1.put 0 (set_same E0.out _) 17 (by decide) (a:=17) (by rw [(HB.out.set E0.out _).off 0 (a:=0) rfl]) (.int .i64 X)
    rw [updC_iv,List.set_set,←hst2] at k
    exact k
   have b2:=hs.2.set 17 (.int .i64 X)
   have H2:=hide h2
   have B2:=hide b2
   clear h1 h2 b2 hst hst2 hs
   go_wp2_with fail
   exact postS_mk _ rfl rfl ⟨H2.out,B2.out⟩
  ·obtain ⟨⟨(h1:vals 1=.pointer (some ⟨b,1,none⟩)),t1⟩,_⟩:=hk
   simp only [h1]
   clear h1
   go_wp2_with fail
   exact postS_mk _ rfl rfl (stgS_keep (by decide) (by decide) (by decide) hs)
  ·obtain ⟨⟨(h10:vals 10=.pointer (some ⟨b,1,none⟩)),t10⟩,⟨(h0:vals 0=.pointer (some ⟨b,1,none⟩)),t0⟩,⟨(h1:vals 1=.pointer (some ⟨b,1,none⟩)),t1⟩,_,⟨(h3:vals 3=.pointer (some ⟨z,0,none⟩)),t3⟩,⟨(h4:vals 4=.int .i64 X),t4⟩,⟨(h5:vals 5=.pointer (some ⟨z,1,none⟩)),t5⟩,⟨(h6:vals 6=.int .i64 Y),t6⟩,⟨(h7:vals 7=.pointer (some ⟨b,1,none⟩)),t7⟩,⟨(h8:vals 8=.pointer (some ⟨b,17,none⟩)),t8⟩,⟨(h9:vals 9=undef),t9⟩,_⟩:=hk
   simp only [h10]
   clear h10 h0 h1 h3 h4 h5 h6 h7 h8 h9
   go_wp2_with fail
   exact postS_mk _ rfl rfl (stgS_keep (by decide) (by decide) (by decide) hs)
  ·obtain ⟨⟨(h11:vals 11=.pointer (some ⟨b,18,none⟩)),t11⟩,⟨(h6:vals 6=.int .i64 Y),t6⟩,⟨(h9:vals 9=undef),t9⟩,⟨(h0:vals 0=.pointer (some ⟨b,1,none⟩)),t0⟩,⟨(h1:vals 1=.pointer (some ⟨b,1,none⟩)),t1⟩,_,⟨(h3:vals 3=.pointer (some ⟨z,0,none⟩)),t3⟩,⟨(h4:vals 4=.int .i64 X),t4⟩,⟨(h5:vals 5=.pointer (some ⟨z,1,none⟩)),t5⟩,_,⟨(h7:vals 7=.pointer (some ⟨b,1,none⟩)),t7⟩,⟨(h8:vals 8=.pointer (some ⟨b,17,none⟩)),t8⟩,_,_⟩:=hk
   simp only [h11,h6]
   clear h11 h6 h9 h0 h1 h3 h4 h5 h7 h8
   have d9:=t9
   have d15:=not_yet hc hi 15 40 (by kernel_rfl)
   have hst:stg u X Y dn=up u 17 X:=by unfold stg;rw [d9,hi,d15];rfl
   have hst2:stg u X Y (updD dn 12)=up (up u 17 X) 18 Y:=by unfold stg;rw [updD_same dn 12,updD_other dn (show ¬9=12 by decide),updD_other dn (show ¬15=12 by decide),d9,d15];rfl
   have h1:=hs.1
   rw [hst] at h1
   have cc:=h1.get 0 (set_same E0.out _) 18 (by decide) (a:=18) (by rw [(HB.out.set E0.out _).off 0 (a:=0) rfl]) (by decide)
   have zz:=h1.frozen 18
   have h2:HasF 64 (x.setCell ⟨b,18,none⟩ (.int .i64 Y)) b 9263 (segs (L.set 0 (21,iv (stg u X Y (updD dn 12))))):=by
    have k:=h1.put 0 (set_same E0.out _) 18 (by decide) (a:=18) (by rw [(HB.out.set E0.out _).off 0 (a:=0) rfl]) (.int .i64 Y)
    rw [updC_iv,List.set_set,←hst2] at k
    exact k
   have b2:=hs.2.set 18 (.int .i64 Y)
   have H2:=hide h2
   have B2:=hide b2
   clear h1 h2 b2 hst hst2 hs
   go_wp2_with fail
   exact postS_mk _ rfl rfl ⟨H2.out,B2.out⟩
  ·obtain ⟨⟨(h2:vals 2=.pointer (some ⟨b,1,none⟩)),t2⟩,_⟩:=hk
   simp only [h2]
   clear h2
   go_wp2_with fail
   exact postS_mk _ rfl rfl (stgS_keep (by decide) (by decide) (by decide) hs)
  ·obtain ⟨⟨(h13:vals 13=.pointer (some ⟨b,1,none⟩)),t13⟩,⟨(h0:vals 0=.pointer (some ⟨b,1,none⟩)),t0⟩,⟨(h1:vals 1=.pointer (some ⟨b,1,none⟩)),t1⟩,⟨(h2:vals 2=.pointer (some ⟨b,1,none⟩)),t2⟩,⟨(h3:vals 3=.pointer (some ⟨z,0,none⟩)),t3⟩,⟨(h4:vals 4=.int .i64 X),t4⟩,⟨(h5:vals 5=.pointer (some ⟨z,1,none⟩)),t5⟩,⟨(h6:vals 6=.int .i64 Y),t6⟩,⟨(h7:vals 7=.pointer (some ⟨b,1,none⟩)),t7⟩,⟨(h8:vals 8=.pointer (some ⟨b,17,none⟩)),t8⟩,⟨(h9:vals 9=undef),t9⟩,⟨(h10:vals 10=.pointer (some ⟨b,1,none⟩)),t10⟩,⟨(h11:vals 11=.pointer (some ⟨b,18,none⟩)),t11⟩,⟨(h12:vals 12=undef),t12⟩,_⟩:=hk
   simp only [h13]
   clear h13 h0 h1 h2 h3 h4 h5 h6 h7 h8 h9 h10 h11 h12
   go_wp2_with fail
   exact postS_mk _ rfl rfl (stgS_keep (by decide) (by decide) (by decide) hs)
  ·obtain ⟨⟨(h14:vals 14=.pointer (some ⟨b,19,none⟩)),t14⟩,⟨(h12:vals 12=undef),t12⟩,⟨(h0:vals 0=.pointer (some ⟨b,1,none⟩)),t0⟩,⟨(h1:vals 1=.pointer (some ⟨b,1,none⟩)),t1⟩,⟨(h2:vals 2=.pointer (some ⟨b,1,none⟩)),t2⟩,⟨(h3:vals 3=.pointer (some ⟨z,0,none⟩)),t3⟩,⟨(h4:vals 4=.int .i64 X),t4⟩,⟨(h5:vals 5=.pointer (some ⟨z,1,none⟩)),t5⟩,⟨(h6:vals 6=.int .i64 Y),t6⟩,⟨(h7:vals 7=.pointer (some ⟨b,1,none⟩)),t7⟩,⟨(h8:vals 8=.pointer (some ⟨b,17,none⟩)),t8⟩,⟨(h9:vals 9=undef),t9⟩,⟨(h10:vals 10=.pointer (some ⟨b,1,none⟩)),t10⟩,⟨(h11:vals 11=.pointer (some ⟨b,18,none⟩)),t11⟩,_,_⟩:=hk
   simp only [h14]
   clear h14 h12 h0 h1 h2 h3 h4 h5 h6 h7 h8 h9 h10 h11
   have d12:=t12
   have d9:=reach_done hc 40 9 12 t12 (by kernel_rfl)
   have hst:stg u X Y dn=up (up u 17 X) 18 Y:=by unfold stg;rw [d9,d12,hi];rfl
   have hst2:stg u X Y (updD dn 15)=up (up (up u 17 X) 18 Y) 19 65535:=by unfold stg;rw [updD_same dn 15,updD_other dn (show ¬12=15 by decide),updD_other dn (show ¬9=15 by decide),d9,d12];rfl
   have h1:=hs.1
   rw [hst] at h1
   have cc:=h1.get 0 (set_same E0.out _) 19 (by decide) (a:=19) (by rw [(HB.out.set E0.out _).off 0 (a:=0) rfl]) (by decide)
   have zz:=h1.frozen 19
   have h2:HasF 64 (x.setCell ⟨b,19,none⟩ (.int .i64 65535)) b 9263 (segs (L.set 0 (21,iv (stg u X Y (updD dn 15))))):=by
    have k:=h1.put 0 (set_same E0.out _) 19 (by decide) (a:=19) (by rw [(HB.out.set E0.out _).off 0 (a:=0) rfl]) (.int .i64 65535)
    rw [updC_iv,List.set_set,←hst2] at k
    exact k
   have b2:=hs.2.set 19 (.int .i64 65535)
   have H2:=hide h2
   have B2:=hide b2
   clear h1 h2 b2 hst hst2 hs
   go_wp2_with fail
   exact postS_mk _ rfl rfl ⟨H2.out,B2.out⟩
 rintro vals2 dn2 x2 hall hs hv2
 have s1:=hs.1
 rw [show stg u X Y dn2=up (up (up u 17 X) 18 Y) 19 65535 by unfold stg;rw [hall 9 (by decide),hall 12 (by decide),hall 15 (by decide)];rfl] at s1
 have X2:=hide (X1.out.row hs.2 s1 (X1.out.isB.set E0.out _) (set_other rfl _ (by decide)) (set_other rfl _ (by decide)))
 have O2:=hide (O1.out.trans (ex_but hs.2))
 have c16:x2.cell? ⟨b,16,none⟩=some (.int .i64 (u 16)):=s1.get 0 (set_same E0.out _) 16 (by decide) (a:=16) (by rw [(X1.out.isB.set E0.out _).off 0 (a:=0) rfl]) (by decide)
 have KB:=hide (fun w=>bit_any (u 16) 1 w)
 clear s1 hs hall X1 O1 MZ
 go_wp2_with (first|(go_at_call 97;refine (KB.out _).mono ?_;rintro e w' ⟨rfl,hw⟩;subst w'))
 rw [MY.out]
 refine (TK.out _ X2.out).mono ?_
 rintro e x3 ⟨rfl,r3,o3⟩
 have R3:=hide r3
 have O3:=hide (O2.out.trans o3)
 clear r3 o3
 go_wp2
 go_end0
 exact ⟨rfl,R3.out,O3.out⟩
end Go.Proofs.YtnllcknfmciebaaGreatDoor.L24
