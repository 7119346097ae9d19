/- Texts put together. -/
import Derived.Test.YtnllcknfmciebaaGreatDoorBusPlaysJ02
import Derived.Test.YtnllcknfmciebaaGreatDoorBusPlaysJ03
import Derived.Test.YtnllcknfmciebaaGreatDoorBusPlaysJ01
import Derived.Test.YtnllcknfmciebaaGreatDoorBusPlaysJ06
namespace Go.Proofs.YtnllcknfmciebaaGreatDoor.D24
set_option maxRecDepth 20000
open Go.RowKit
set_option linter.unusedVariables false
def ylens:List Nat:=[1,1,1,1,8,21,1,256,1,1,1,514,244,4,1,1,4,10,1]
def IsY (L:List (Nat×(Nat→Value))):Prop:=L.map Prod.fst=ylens
theorem IsY.off {L:List (Nat×(Nat→Value))} (h:IsY L) (k:Nat) {a:Nat} (ha:(ylens.take k).sum=a):soff L k=a:=off_of h k ha
theorem IsY.set {L:List (Nat×(Nat→Value))} (h:IsY L) {k n:Nat} {f:Nat→Value} (hk:L[k]? = some (n,f)) (f':Nat→Value):IsY (L.set k (n,f')):=lens_set h hk f'
theorem yraise {L:List (Nat×(Nat→Value))} {b:Nat} {w:World} (hY:IsY L) (h:HasF 81 w b 1072 (segs L)) {m l m' l':Int} (h14:L[14]? = some (1,fun _=>Value.int .i64 m)) (h15:L[15]? = some (1,fun _=>Value.int .i64 l)) (n:Int) (on:Bool)
  (K:∀w,Calls Tryz.prog 109 #[.int .i64 m,.int .i64 l,.int .i64 n,.bool on] w fun e w'=>e=Ending.returned (.tuple #[.int .i64 m',.int .i64 l'])∧w'=w):
  Calls Tryz.prog 58 #[.pointer (some ⟨b,0,none⟩),.int .i64 n,.bool on] w fun e w'=>e=Ending.returned (.tuple #[])∧HasF 81 w' b 1072 (segs ((L.set 14 (1,fun _=>Value.int .i64 m')).set 15 (1,fun _=>Value.int .i64 l')))∧But b w w':=by
 have KK:=hide K
 have H:=hide h
 have E14:=hide h14
 have E15:=hide h15
 have HY:=hide hY
 have i14:=kept_cell (h.get1 14 h14 (a:=1055) (hY.off 14 rfl) (by decide)) h.lt
 have i15:=kept_cell (h.get1 15 h15 (a:=1056) (hY.off 15 rfl) (by decide)) h.lt
 clear K h h14 h15 hY
 go_enter Tryz.func58,Tryz.ntmps58
 go_wp2_with fail
 haveI:=kept_some w
 refine wp_region_kept (by kernel_rfl) (by kernel_rfl) ?_
 repeat (go_big_quiet_step ((go_at_call 109;exact kept_same (KK.out _))))
 refine wpQuiet_nil ?_
 rintro _ ⟨wk,rfl⟩
 have H1:=hide (H.out.next wk.below)
 have B1:=hide (But.of (b:=b) wk.below)
 have c14:=i14 wk
 have c15:=i15 wk
 have z14:=H1.out.frozen 1055
 have z15:=H1.out.frozen 1056
 generalize wk.val=w1 at *
 clear i14 i15 KK H
 go_wp2
 go_end0
 refine ⟨rfl,?_,(B1.out.set _ _).set _ _⟩
 exact (H1.out.put1 14 E14.out (HY.out.off 14 rfl) _).put1 15 (set_other E15.out _ (by decide)) ((HY.out.set E14.out _).off 15 rfl) _
theorem ytick_off {L:List (Nat×(Nat→Value))} {b:Nat} {w:World} (hY:IsY L) (h:HasF 81 w b 1072 (segs L)) {f:Nat→Value} (h13:L[13]? = some (4,f)) (ho:f 2=.bool false) (n:Int):
  Calls Tryz.prog 10 #[.pointer (some ⟨b,0,none⟩),.int .i64 n] w fun e w'=>e=Ending.returned (.tuple #[])∧w'=w:=by
 have c:=h.get 13 h13 2 (by decide) (a:=1053) (by rw [hY.off 13 (a:=1051) rfl]) (by decide)
 rw [ho] at c
 clear h h13 ho hY
 go_enter Tryz.func10,Tryz.ntmps10
 go_wp2
 refine bodyPost_ret (results_none rfl _ _ _) rfl ?_
 exact ⟨rfl,rfl⟩
theorem ytick_on {L:List (Nat×(Nat→Value))} {b:Nat} {w:World} (hY:IsY L) (h:HasF 81 w b 1072 (segs L)) {f g:Nat→Value} (h13:L[13]? = some (4,f)) (ho:f 2=.bool true) (n k:Int) (KA:∀w,Calls Tryz.prog 57 #[.agg (rowF f 4),.int .i64 n] w fun e w'=>e=Ending.returned (.tuple #[.agg (rowF g 4),.int .i64 k])∧Below w.heap.size w w') (hg:∀j,j<4→(g j).oneCell'=true) (hk:¬0<k):
  Calls Tryz.prog 10 #[.pointer (some ⟨b,0,none⟩),.int .i64 n] w fun e w'=>e=Ending.returned (.tuple #[])∧HasF 81 w' b 1072 (segs (L.set 13 (4,g)))∧But b w w':=by
 have c:=h.get 13 h13 2 (by decide) (a:=1053) (by rw [hY.off 13 (a:=1051) rfl]) (by decide)
 rw [ho] at c
 have SG:=hide (h.seg 13 h13 (a:=1051) (hY.off 13 rfl))
 have H:=hide h
 have KA:=hide KA
 have E13:=hide h13
 have HY:=hide hY
 have G1:=hide hg
 have ZO:Hid ((rowF g 4).all (·.oneCell')=true):=hide (rowF_all hg)
 have ZI:Hid ((Tryz.prog.info? 76).map (·.size)=some (rowF g 4).size):=hide (by rw [rowF_size];kernel_rfl)
 have ZS:Hid ((#[.int .i64 0,.int .i64 0,.bool false,.int .i64 0]:Array Value).size=(rowF g 4).size):=hide (by rw [rowF_size];rfl)
 clear h h13 ho hY hg
 go_enter Tryz.func10,Tryz.ntmps10
 go_wp2_with (first
  |(refine wpList_load_part rfl 76 (.tmp 15) rfl b 1051 rfl H.out 4 (by decide) f SG.out _ Tryz.underlying76 rfl (by kernel_rfl) ?_))
 refine (KA.out _).mono ?_
 rintro e w2 ⟨rfl,b2⟩
 have H2:=hide (H.out.next b2)
 have B2:=hide (But.of (b:=b) b2)
 have NB:=hide (show w2.heap.size≠b from Nat.ne_of_gt (Nat.lt_of_lt_of_le H.out.lt b2.size))
 clear b2 KA H c SG
 go_wp2_with (first
  |(refine wpList_store_row rfl 76 (.tmp 4) (.tmp 19) rfl w2.heap.size _ rfl rfl 76 _ (heap_alloc_new _ _) ZI.out ZS.out ZO.out ?_
    refine under_list fun w3 hw3=>?_
    have W3:Below w2.heap.size w2 w3:=(by rw [hw3];exact below_setRow ((Below.refl _ _).alloc (Nat.le_refl _) _) (Nat.le_refl _) _)
    have M3:Hid (w3.heap[w2.heap.size]? = some (.cells (rowF g 4) 76 (0,0))):=hide (by rw [hw3];exact setRow_heap _ _ _ _ _ _ (heap_alloc_new _ _))
    have H3:=hide (H2.out.next W3)
    have B3:=hide (B2.out.andBelow W3)
    clear hw3 W3 H2 B2)
  |(refine wpList_load_row rfl 76 (.tmp 4) rfl w2.heap.size rfl _ _ _ _ M3.out Tryz.underlying76 rfl ZI.out ?_)
  |(refine wpList_store_part rfl 76 (.tmp 24) (.tmp 22) rfl b 1051 4 g rfl rfl H3.out (by decide) (by kernel_rfl) G1.out ?_
    refine under_list fun w4 hw4=>?_
    have H4:Hid (HasF 81 w4 b 1072 (segs (L.set 13 (4,g)))):=hide (by rw [hw4];exact H3.out.lay 13 E13.out g (HY.out.off 13 rfl))
    have B4:Hid (But b w w4):=hide (by rw [hw4];exact But.cells _ _ _ B3.out)
    clear hw4 H3 B3 M3))
 go_end0
 exact ⟨rfl,H4.out,B4.out⟩
theorem ytick_round {L:List (Nat×(Nat→Value))} {b:Nat} {w:World} (hY:IsY L) (h:HasF 81 w b 1072 (segs L)) {f g:Nat→Value} (h13:L[13]? = some (4,f)) (ho:f 2=.bool true) (n k:Int) (KA:∀w,Calls Tryz.prog 57 #[.agg (rowF f 4),.int .i64 n] w fun e w'=>e=Ending.returned (.tuple #[.agg (rowF g 4),.int .i64 k])∧Below w.heap.size w w') (hg:∀j,j<4→(g j).oneCell'=true) (hk:0<k) {m l m' l':Int} (h14:L[14]? = some (1,fun _=>Value.int .i64 m)) (h15:L[15]? = some (1,fun _=>Value.int .i64 l))
  (K:∀w,Calls Tryz.prog 109 #[.int .i64 m,.int .i64 l,.int .i64 4,.bool true] w fun e w'=>e=Ending.returned (.tuple #[.int .i64 m',.int .i64 l'])∧w'=w):
  Calls Tryz.prog 10 #[.pointer (some ⟨b,0,none⟩),.int .i64 n] w fun e w'=>e=Ending.returned (.tuple #[])∧HasF 81 w' b 1072 (segs (((L.set 13 (4,g)).set 14 (1,fun _=>Value.int .i64 m')).set 15 (1,fun _=>Value.int .i64 l')))∧But b w w':=by
 have KR:=hide (fun w (h:HasF 81 w b 1072 (segs (L.set 13 (4,g))))=>yraise (hY.set h13 g) h (set_other h14 _ (by decide)) (set_other h15 _ (by decide)) 4 true K)
 clear K h14 h15
 have c:=h.get 13 h13 2 (by decide) (a:=1053) (by rw [hY.off 13 (a:=1051) rfl]) (by decide)
 rw [ho] at c
 have SG:=hide (h.seg 13 h13 (a:=1051) (hY.off 13 rfl))
 have H:=hide h
 have KA:=hide KA
 have E13:=hide h13
 have HY:=hide hY
 have G1:=hide hg
 have ZO:Hid ((rowF g 4).all (·.oneCell')=true):=hide (rowF_all hg)
 have ZI:Hid ((Tryz.prog.info? 76).map (·.size)=some (rowF g 4).size):=hide (by rw [rowF_size];kernel_rfl)
 have ZS:Hid ((#[.int .i64 0,.int .i64 0,.bool false,.int .i64 0]:Array Value).size=(rowF g 4).size):=hide (by rw [rowF_size];rfl)
 clear h h13 ho hY hg
 go_enter Tryz.func10,Tryz.ntmps10
 go_wp2_with (first
  |(refine wpList_load_part rfl 76 (.tmp 15) rfl b 1051 rfl H.out 4 (by decide) f SG.out _ Tryz.underlying76 rfl (by kernel_rfl) ?_))
 refine (KA.out _).mono ?_
 rintro e w2 ⟨rfl,b2⟩
 have H2:=hide (H.out.next b2)
 have B2:=hide (But.of (b:=b) b2)
 have NB:=hide (show w2.heap.size≠b from Nat.ne_of_gt (Nat.lt_of_lt_of_le H.out.lt b2.size))
 clear b2 KA H c SG
 go_wp2_with (first
  |(refine wpList_store_row rfl 76 (.tmp 4) (.tmp 19) rfl w2.heap.size _ rfl rfl 76 _ (heap_alloc_new _ _) ZI.out ZS.out ZO.out ?_
    refine under_list fun w3 hw3=>?_
    have W3:Below w2.heap.size w2 w3:=(by rw [hw3];exact below_setRow ((Below.refl _ _).alloc (Nat.le_refl _) _) (Nat.le_refl _) _)
    have M3:Hid (w3.heap[w2.heap.size]? = some (.cells (rowF g 4) 76 (0,0))):=hide (by rw [hw3];exact setRow_heap _ _ _ _ _ _ (heap_alloc_new _ _))
    have H3:=hide (H2.out.next W3)
    have B3:=hide (B2.out.andBelow W3)
    clear hw3 W3 H2 B2)
  |(refine wpList_load_row rfl 76 (.tmp 4) rfl w2.heap.size rfl _ _ _ _ M3.out Tryz.underlying76 rfl ZI.out ?_)
  |(refine wpList_store_part rfl 76 (.tmp 24) (.tmp 22) rfl b 1051 4 g rfl rfl H3.out (by decide) (by kernel_rfl) G1.out ?_
    refine under_list fun w4 hw4=>?_
    have H4:Hid (HasF 81 w4 b 1072 (segs (L.set 13 (4,g)))):=hide (by rw [hw4];exact H3.out.lay 13 E13.out g (HY.out.off 13 rfl))
    have B4:Hid (But b w w4):=hide (by rw [hw4];exact But.cells _ _ _ B3.out)
    clear hw4 H3 B3 M3))
 refine (KR.out _ H4.out).mono ?_
 rintro e w5 ⟨rfl,h5,b5⟩
 have H5:=hide h5
 have B5:=hide (B4.out.trans b5)
 clear h5 b5 KR H4 B4
 go_wp2
 go_end0
 exact ⟨rfl,H5.out,B5.out⟩
theorem ytell_no {L:List (Nat×(Nat→Value))} {b:Nat} {w:World} (hY:IsY L) (h:HasF 81 w b 1072 (segs L)) {s t:Int} (h8:L[8]? = some (1,fun _=>Value.int .i64 s)) (n:Int) (n0:0<n) (n1:n≤1000) (s0:0≤s) (s1:s≤100000) (ht:(if s/n%2=0 then s+n else s)=t):
  Calls Tryz.prog 12 #[.pointer (some ⟨b,0,none⟩),.int .i64 n,.bool false] w fun e w'=>e=Ending.returned (.tuple #[])∧HasF 81 w' b 1072 (segs (L.set 8 (1,fun _=>Value.int .i64 t)))∧But b w w':=by
 have c:=h.get1 8 h8 (a:=290) (hY.off 8 rfl) (by decide)
 have z:=h.frozen 290
 have q0:0≤s/n:=Int.ediv_nonneg s0 (by omega)
 have q1:s/n≤100000:=Int.le_trans (Int.ediv_le_self n s0) s1
 have e1:Int.tdiv s n=s/n:=Int.tdiv_eq_ediv_of_nonneg s0
 generalize s/n=q at *
 have e2:Int.tmod q 2=q%2:=Int.tmod_eq_emod_of_nonneg q0
 have nz:¬n=0:=by omega
 have H:=hide h
 have HY:=hide hY
 have E8:=hide h8
 have P:=hide (h.put1 8 h8 (a:=290) (hY.off 8 rfl))
 clear h hY h8
 by_cases hp:q%2=0
 ·rw [if_pos hp] at ht
  replace ht:=hide ht
  go_enter Tryz.func12,Tryz.ntmps12
  go_wp2
  go_end0
  refine ⟨rfl,?_,(But.refl _ _).set _ _⟩
  rw [←ht.out]
  exact P.out _
 ·rw [if_neg hp] at ht
  replace ht:=hide ht
  go_enter Tryz.func12,Tryz.ntmps12
  go_wp2
  go_end0
  refine ⟨rfl,?_,But.refl _ _⟩
  rw [←ht.out,show L.set 8 (1,fun _=>Value.int .i64 s)=L from set_id E8.out]
  exact H.out
end Go.Proofs.YtnllcknfmciebaaGreatDoor.D24
namespace Go.Proofs.YtnllcknfmciebaaGreatDoor.D24
set_option maxRecDepth 20000
open W13
open Go.RowKit
set_option linter.unusedVariables false
def HasY (w:World) (b c d r:Nat) (L:List (Nat×(Nat→Value))) (f:Nat→Int) (wr rd st lo bu:Int) (ram:Nat→Int):Prop:=
 HasF 81 w b 1072 (segs L)∧HasR w c d f wr rd st lo bu∧HasF 3 w r 8192 (iv ram)∧IsY L∧L[6]? = some (1,fun _=>.pointer (some ⟨c,0,none⟩))∧L[3]? = some (1,fun _=>.slice (some ⟨r,0,none⟩) 8192 8192)∧(b≠c∧b≠d∧b≠r∧c≠r∧d≠r)
def EY (b c d r:Nat):Nat→Prop:=fun k=>k=b∨k=c∨k=d∨k=r
theorem HasY.next {w:World} {b c d r:Nat} {L:List (Nat×(Nat→Value))} {f:Nat→Int} {wr rd st lo bu:Int} {ram:Nat→Int} (h:HasY w b c d r L f wr rd st lo bu ram) {w':World} (k:Below w.heap.size w w'):HasY w' b c d r L f wr rd st lo bu ram:=⟨h.1.next k,h.2.1.next k,h.2.2.1.next k,h.2.2.2⟩
theorem HasY.row {w:World} {b c d r:Nat} {L:List (Nat×(Nat→Value))} {f:Nat→Int} {wr rd st lo bu:Int} {ram:Nat→Int} (h:HasY w b c d r L f wr rd st lo bu ram) {w':World} {L':List (Nat×(Nat→Value))} (k:But b w w') (h':HasF 81 w' b 1072 (segs L')) (y:IsY L') (y6:L'[6]? = L[6]?) (y3:L'[3]? = L[3]?):HasY w' b c d r L' f wr rd st lo bu ram:=
 ⟨h',⟨k.obj h.2.1.1 (fun e=>h.2.2.2.2.2.2.1 e.symm),k.obj h.2.1.2.1 (fun e=>h.2.2.2.2.2.2.2.1 e.symm),h.2.1.2.2⟩,k.keep h.2.2.1 (fun e=>h.2.2.2.2.2.2.2.2.1 e.symm),y,y6.trans h.2.2.2.2.1,y3.trans h.2.2.2.2.2.1,h.2.2.2.2.2.2⟩
theorem HasY.vram {w:World} {b c d r:Nat} {L:List (Nat×(Nat→Value))} {f:Nat→Int} {wr rd st lo bu:Int} {ram:Nat→Int} (h:HasY w b c d r L f wr rd st lo bu ram) {w':World} {f':Nat→Int} {wr' rd' st' lo' bu':Int} (k:Only2 c d w w') (h':HasR w' c d f' wr' rd' st' lo' bu'):HasY w' b c d r L f' wr' rd' st' lo' bu' ram:=
 ⟨k.obj h.1 h.2.2.2.2.2.2.1 h.2.2.2.2.2.2.2.1,h',k.obj h.2.2.1 (fun e=>h.2.2.2.2.2.2.2.2.2.1 e.symm) (fun e=>h.2.2.2.2.2.2.2.2.2.2 e.symm),h.2.2.2⟩
theorem ey_but {b c d r:Nat} {w w':World} (k:But b w w'):OnlyE (EY b c d r) w w':=⟨k.1,k.2.1,k.2.2.1,k.size,fun i hi hE=>k.block i hi fun e=>hE (.inl e)⟩
theorem ey_two {b c d r:Nat} {w w':World} (k:Only2 c d w w'):OnlyE (EY b c d r) w w':=⟨k.1,k.2.1,k.2.2.1,k.size,fun i hi hE=>k.block i hi (fun e=>hE (.inr (.inl e))) (fun e=>hE (.inr (.inr (.inl e))))⟩
theorem yvideo_0 {w:World} {b c d r:Nat} {L:List (Nat×(Nat→Value))} {f:Nat→Int} {wr rd st lo bu:Int} {ram:Nat→Int} (h:HasY w b c d r L f wr rd st lo bu ram) {s m l m' l':Int} (h8:L[8]? = some (1,fun _=>Value.int .i64 s)) (h14:L[14]? = some (1,fun _=>Value.int .i64 m)) (h15:L[15]? = some (1,fun _=>Value.int .i64 l))
  (K:∀w,Calls Tryz.prog 109 #[.int .i64 m,.int .i64 l,.int .i64 2,.bool false] w fun e w'=>e=Ending.returned (.tuple #[.int .i64 m',.int .i64 l'])∧w'=w):
  Calls Tryz.prog 35 #[.pointer (some ⟨b,0,none⟩),.int .i64 0] w fun e w'=>e=Ending.returned (.int .i64 s)∧HasY w' b c d r (((L.set 8 (1,fun _=>Value.int .i64 0)).set 14 (1,fun _=>Value.int .i64 m')).set 15 (1,fun _=>Value.int .i64 l')) f wr rd st lo bu ram∧OnlyE (EY b c d r) w w':=by
 have hY:=h.2.2.2.1
 have h0:=h.1
 have c8:=h0.get1 8 h8 (a:=290) (hY.off 8 rfl) (by decide)
 have z8:=h0.frozen 290
 have P:=hide (h0.put1 8 h8 (a:=290) (hY.off 8 rfl) (.int .i64 0))
 have KR:=hide (fun w (h:HasF 81 w b 1072 (segs (L.set 8 (1,fun _=>Value.int .i64 0))))=>yraise (hY.set h8 _) h (set_other h14 _ (by decide)) (set_other h15 _ (by decide)) 2 false K)
 have HE:=hide h
 have YS:=hide (show IsY (((L.set 8 (1,fun _=>Value.int .i64 0)).set 14 (1,fun _=>Value.int .i64 m')).set 15 (1,fun _=>Value.int .i64 l')) from ((hY.set h8 _).set (set_other h14 _ (by decide)) _).set (set_other (set_other h15 _ (by decide)) _ (by decide)) _)
 have S6:=hide (show (((L.set 8 (1,fun _=>Value.int .i64 0)).set 14 (1,fun _=>Value.int .i64 m')).set 15 (1,fun _=>Value.int .i64 l'))[6]? = L[6]? from set_other (set_other (set_other rfl _ (by decide)) _ (by decide)) _ (by decide))
 have S3:=hide (show (((L.set 8 (1,fun _=>Value.int .i64 0)).set 14 (1,fun _=>Value.int .i64 m')).set 15 (1,fun _=>Value.int .i64 l'))[3]? = L[3]? from set_other (set_other (set_other rfl _ (by decide)) _ (by decide)) _ (by decide))
 clear K h h0 hY h8 h14 h15
 go_enter Tryz.func35,Tryz.ntmps35
 go_wp2_with fail
 refine (KR.out _ P.out).mono ?_
 rintro e w2 ⟨rfl,h2,b2⟩
 have H2:=hide h2
 have B2:=hide (((But.refl b w).set 290 (.int .i64 0)).trans b2)
 clear h2 b2 P KR
 go_wp2
 go_ret
 exact ⟨rfl,HE.out.row B2.out H2.out YS.out S6.out S3.out,ey_but B2.out⟩
theorem yvideo_2 {w:World} {b c d r:Nat} {L:List (Nat×(Nat→Value))} {f:Nat→Int} {wr rd st lo bu:Int} {ram:Nat→Int} (h:HasY w b c d r L f wr rd st lo bu ram) (b0:0≤bu) (b1:bu<65536):
  Calls Tryz.prog 35 #[.pointer (some ⟨b,0,none⟩),.int .i64 2] w fun e w'=>e=Ending.returned (.int .i64 (bu%256))∧w'=w:=by
 have c6:=h.1.get1 6 h.2.2.2.2.1 (a:=33) (h.2.2.2.1.off 6 rfl) (by decide)
 have K:=hide (rgetLow_is c d f wr rd st lo bu w h.2.1 b0 b1)
 clear h
 go_enter Tryz.func35,Tryz.ntmps35
 go_wp2_with fail
 refine K.out.mono ?_
 rintro e w' ⟨rfl,hw⟩
 subst w'
 go_wp2
 go_ret
 exact ⟨rfl,rfl⟩
theorem yvideo_3 {w:World} {b c d r:Nat} {L:List (Nat×(Nat→Value))} {f:Nat→Int} {wr rd st lo bu:Int} {ram:Nat→Int} (h:HasY w b c d r L f wr rd st lo bu ram) (b0:0≤bu) (b1:bu<65536) (r0:0≤rd) (r1:rd<65536) (s0:0≤st) (s1:st<65536) (x y:Int) (hx:(rd+st)%65536=x) (hy:wordAt f x=y):
  Calls Tryz.prog 35 #[.pointer (some ⟨b,0,none⟩),.int .i64 3] w fun e w'=>e=Ending.returned (.int .i64 (bu/256%256))∧HasY w' b c d r L f wr x st lo y ram∧OnlyE (EY b c d r) w w':=by
 have c6:=h.1.get1 6 h.2.2.2.2.1 (a:=33) (h.2.2.2.1.off 6 rfl) (by decide)
 have K:=hide (rgetHigh_is c d f wr rd st lo bu w h.2.1 x y b0 b1 r0 r1 s0 s1 hx hy)
 have HE:=hide h
 clear h hx hy
 go_enter Tryz.func35,Tryz.ntmps35
 go_wp2_with fail
 refine K.out.mono ?_
 rintro e w2 ⟨rfl,h2,o2⟩
 have H2:=hide h2
 have O2:=hide o2
 clear h2 o2 K
 go_wp2
 go_ret
 exact ⟨rfl,HE.out.vram O2.out H2.out,ey_two O2.out⟩
theorem yvideo_no {w:World} {b c d r:Nat} {L:List (Nat×(Nat→Value))} {f:Nat→Int} {wr rd st lo bu:Int} {ram:Nat→Int} (h:HasY w b c d r L f wr rd st lo bu ram) (a:Int) (a0:¬a=0) (a2:¬a=2) (a3:¬a=3):
  Calls Tryz.prog 35 #[.pointer (some ⟨b,0,none⟩),.int .i64 a] w fun e w'=>e=Ending.returned (.int .i64 0)∧w'=w:=by
 clear h
 go_enter Tryz.func35,Tryz.ntmps35
 go_wp2
 go_ret
 exact ⟨rfl,rfl⟩
end Go.Proofs.YtnllcknfmciebaaGreatDoor.D24
