/- Texts put together. -/
import Derived.Test.YtnllcknfmciebaaGreatDoorBusPlaysJ32
import Derived.Test.YtnllcknfmciebaaGreatDoorBusPlaysJ27
import Derived.Test.YtnllcknfmciebaaGreatDoorBusPlaysJ47
import Derived.Test.YtnllcknfmciebaaGreatDoorBusPlaysJ48
import Derived.Test.YtnllcknfmciebaaGreatDoorBusPlaysJ49
import Derived.Test.YtnllcknfmciebaaGreatDoorBusPlaysJ18
import Derived.Test.YtnllcknfmciebaaGreatDoorBusPlaysJ05
namespace Go.Proofs.YtnllcknfmciebaaGreatDoor.D24
set_option maxRecDepth 20000
open W13
open Go.RowKit
set_option linter.unusedVariables false
set_option maxHeartbeats 1000000 in
theorem ytell_may {L:List (Nat×(Nat→Value))} {b:Nat} {w:World} (hY:IsY L) (h:HasF 81 w b 1072 (segs L)) {s t m l m' l':Int} (h8:L[8]? = some (1,fun _=>Value.int .i64 s)) (h14:L[14]? = some (1,fun _=>Value.int .i64 m)) (h15:L[15]? = some (1,fun _=>Value.int .i64 l)) (n:Int) (n0:0<n) (n1:n≤1000) (s0:0≤s) (s1:s≤100000) (ht:(if s/n%2=0 then s+n else s)=t)
  (K:∀w,Calls Tryz.prog 109 #[.int .i64 m,.int .i64 l,.int .i64 2,.bool true] w fun e w'=>e=Ending.returned (.tuple #[.int .i64 m',.int .i64 l'])∧w'=w):
  Calls Tryz.prog 12 #[.pointer (some ⟨b,0,none⟩),.int .i64 n,.bool true] w fun e w'=>e=Ending.returned (.tuple #[])∧HasF 81 w' b 1072 (segs (((L.set 8 (1,fun _=>Value.int .i64 t)).set 14 (1,fun _=>Value.int .i64 m')).set 15 (1,fun _=>Value.int .i64 l')))∧But b w w':=by
 have c:=h.get1 8 h8 (a:=290) (hY.off 8 rfl) (by decide)
 have z:=h.frozen 290
 have KR:=hide (fun w (h:HasF 81 w b 1072 (segs (L.set 8 (1,fun _=>Value.int .i64 t))))=>yraise (hY.set h8 _) h (set_other h14 _ (by decide)) (set_other h15 _ (by decide)) 2 true K)
 have q0:0≤s/n:=Int.ediv_nonneg s0 (by omega)
 have q1:s/n≤100000:=Int.le_trans (Int.ediv_le_self n s0) s1
 have e1:Int.tdiv s n=s/n:=Int.tdiv_eq_ediv_of_nonneg s0
 generalize s/n=q at *
 have e2:Int.tmod q 2=q%2:=Int.tmod_eq_emod_of_nonneg q0
 have nz:¬n=0:=by omega
 have H:=hide h
 have E8:=hide h8
 have P:=hide (h.put1 8 h8 (a:=290) (hY.off 8 rfl))
 clear h hY h8 h14 h15 K
 by_cases hp:q%2=0
 ·rw [if_pos hp] at ht
  replace ht:=hide ht
  go_enter Tryz.func12,Tryz.ntmps12
  go_wp2_with fail
  refine (KR.out _ (by rw [←ht.out];exact P.out _)).mono ?_
  rintro e w2 ⟨rfl,h2,b2⟩
  have H2:=hide h2
  have B2:=hide (((But.refl b w).set 290 (.int .i64 (s+n))).trans b2)
  clear h2 b2 P
  go_wp2
  go_end0
  exact ⟨rfl,H2.out,B2.out⟩
 ·rw [if_neg hp] at ht
  replace ht:=hide ht
  go_enter Tryz.func12,Tryz.ntmps12
  go_wp2_with fail
  refine (KR.out _ (by rw [←ht.out,show L.set 8 (1,fun _=>Value.int .i64 s)=L from set_id E8.out];exact H.out)).mono ?_
  rintro e w2 ⟨rfl,h2,b2⟩
  have H2:=hide h2
  have B2:=hide ((But.refl b w).trans b2)
  clear h2 b2 P
  go_wp2
  go_end0
  exact ⟨rfl,H2.out,B2.out⟩
end Go.Proofs.YtnllcknfmciebaaGreatDoor.D24
namespace Go.Proofs.YtnllcknfmciebaaGreatDoor.L24
set_option maxRecDepth 20000
open B4 C3 D24 G6 I11 J23 M5 P22 R15 T10 V12 W13
open Go.RowKit
set_option linter.unusedVariables false
theorem dtell_row {w:World} {b:Nat} {P:Int} {sl:Value} {r c:Nat} {Z:Nat→Nat→Int} (h:HasF 81 w b 1072 (segs (YP P sl r c Z))) (s0:0≤Z 3 0) (s1:Z 3 0<128) (n:Int) (hn:n=1∨n=2∨n=4∨n=8∨n=16∨n=32) (may:Bool):
  Calls Tryz.prog 12 #[.pointer (some ⟨b,0,none⟩),.int .i64 n,.bool may] w fun e w'=>e=Ending.returned (.tuple #[])∧HasF 81 w' b 1072 (segs (YP P sl r c (tellZ Z n may)))∧But b w w':=by
 have q:=(or_bit (Z 3 0) n s0 s1 hn).1
 have n0:0<n∧n≤1000:=by omega
 cases may with
 |false=>exact D24.ytell_no (L:=YP P sl r c Z) rfl h (s:=Z 3 0) (t:=bits .or .i64 (Z 3 0) n) rfl n n0.1 n0.2 s0 (by omega) q
 |true=>exact D24.ytell_may (L:=YP P sl r c Z) rfl h (s:=Z 3 0) (t:=bits .or .i64 (Z 3 0) n) (m:=Z 13 0) (l:=Z 13 1) rfl rfl rfl n n0.1 n0.2 s0 (by omega) q (fun w=>rraise_any _ _ 2 true w)
theorem d_tell {w:World} {b c d r:Nat} {P:Int} {sl:Value} {Z:Nat→Nat→Int} (h:HasD w b c d r P sl Z) (g:GoodZ Z) (n:Int) (hn:n=1∨n=2∨n=4∨n=8∨n=16∨n=32) (may:Bool):
  Calls Tryz.prog 12 #[.pointer (some ⟨b,0,none⟩),.int .i64 n,.bool may] w fun e w'=>e=Ending.returned (.tuple #[])∧HasD w' b c d r P sl (tellZ Z n may)∧OnlyE (D24.EY b c d r) w w':=
 (dtell_row h.1 g.2.2.1.1 g.2.2.1.2 n hn may).mono fun e w' ⟨e1,h1,b1⟩=>⟨e1,D24.HasY.row h b1 h1 rfl rfl rfl,D24.ey_but b1⟩
theorem radv_t (g:Nat→Int) (n:Int) (n0:0≤n) (n1:n≤8388608) (w:World):Calls Tryz.prog 57 #[.agg (rowF (tvZ g) 4),.int .i64 n] w fun e w'=>e=Ending.returned (.tuple #[.agg (rowF (tvZ (advG g n)) 4),.int .i64 (rndG g n)])∧Below w.heap.size w w':=by
 show Calls Tryz.prog 57 #[.agg #[.int .i64 (g 0),.int .i64 (g 1),.bool (isB (g 2)),.int .i64 (g 3)],.int .i64 n] w fun e w'=>e=Ending.returned (.tuple #[.agg #[.int .i64 (g 0),.int .i64 (cT (g 0) (g 1) (isB (g 2)) (g 3) n),.bool (isB (g 2)),.int .i64 (pT (g 0) (g 1) (isB (g 2)) (g 3) n)],.int .i64 (kT (g 0) (g 1) (isB (g 2)) (g 3) n)])∧Below w.heap.size w w'
 generalize isB (g 2)=o
 unfold cT pT kT
 by_cases h:goT (g 0) (g 1) o (g 3) n=true
 ·rw [if_pos h,if_pos h,if_pos h]
  unfold goT at h
  simp only [Bool.and_eq_true,decide_eq_true_eq] at h
  obtain ⟨⟨rfl,h1⟩,h2,h3⟩:=h
  exact T10.radv_on (g 0) (g 1) (g 3) n h1 h2 n1 w
 ·rw [if_neg h,if_neg h,if_neg h]
  refine T10.radv_still (g 0) (g 1) o (g 3) n ?_ w
  cases hv:(o&&okT (g 0) (g 1) o (g 3))
  ·exact .inl rfl
  ·right
   unfold goT at h
   rw [hv] at h
   simp at h
   omega
theorem d_tick {w:World} {b c d r:Nat} {P:Int} {sl:Value} {Z:Nat→Nat→Int} (h:HasD w b c d r P sl Z) (g:GoodZ Z) (n:Int) (n0:0≤n) (n1:n≤8388608):
  Calls Tryz.prog 10 #[.pointer (some ⟨b,0,none⟩),.int .i64 n] w fun e w'=>e=Ending.returned (.tuple #[])∧HasD w' b c d r P sl (tickZ Z n)∧OnlyE (D24.EY b c d r) w w':=by
 have h13:=g.2.2.2.2.2.2.2.2.2.2.2.2.2.2.2.2.2.1
 cases ho:isB (Z 12 2) with
 |false=>
  rw [tick_off Z n ho h13]
  exact (D24.ytick_off (L:=YP P sl r c Z) rfl h.1 (f:=tvZ (Z 12)) rfl (by unfold tvZ;rw [ho];rfl) n).mono fun e w' ⟨e1,hw⟩=>⟨e1,by rw [hw];exact h,ey_same hw⟩
 |true=>
  by_cases hk:0<rndG (Z 12) n
  ·have e:tickZ Z n=upZ (upZ Z 12 (advG (Z 12) n)) 13 (twoV (Z 13 0%8) (or3 (Z 13 1) 4)):=by
    unfold tickZ mT lT
    rw [if_pos hk,if_pos hk]
   rw [e]
   exact (D24.ytick_round (L:=YP P sl r c Z) rfl h.1 (f:=tvZ (Z 12)) (g:=tvZ (advG (Z 12) n)) rfl (by unfold tvZ;rw [ho];rfl) n (rndG (Z 12) n) (fun w=>radv_t _ _ n0 n1 w) (tv_one _ _ _ _) hk (m:=Z 13 0) (l:=Z 13 1) rfl rfl (fun w=>rraise_any _ _ 4 true w)).mono fun e w' ⟨e1,h1,b1⟩=>⟨e1,D24.HasY.row h b1 h1 rfl rfl rfl,D24.ey_but b1⟩
  ·have e:tickZ Z n=upZ Z 12 (advG (Z 12) n):=by
    unfold tickZ mT lT
    rw [if_neg hk,if_neg hk,←h13]
    exact upZ_id (upZ Z 12 (advG (Z 12) n)) 13
   rw [e]
   exact (D24.ytick_on (L:=YP P sl r c Z) rfl h.1 (f:=tvZ (Z 12)) (g:=tvZ (advG (Z 12) n)) rfl (by unfold tvZ;rw [ho];rfl) n (rndG (Z 12) n) (fun w=>radv_t _ _ n0 n1 w) (tv_one _ _ _ _) hk).mono fun e w' ⟨e1,h1,b1⟩=>⟨e1,D24.HasY.row h b1 h1 rfl rfl rfl,D24.ey_but b1⟩
theorem rreg_any (g:Nat→Int) (a y:Int) (g0:0≤g 0) (w:World):Calls Tryz.prog 100 #[.agg (rowF (iv g) 21),.int .i64 a,.int .i64 y] w fun e w'=>e=Ending.returned (.tuple #[.agg (rowF (iv (gW g a y)) 21),.int .i64 (effW g a)])∧Below w.heap.size w w':=by
 unfold gW effW
 conv=>arg 3;rw [←gF_eta g,gF_row]
 by_cases a0:a=0
 ·subst a0
  rw [if_pos rfl,if_pos rfl,gF_row]
  exact R15.rwrite_sel (g 0) y (y%32) (fun j=>g (j+1)) rfl w
 rw [if_neg a0,if_neg a0]
 by_cases ha:(a=2∨a=3)∧g 0<20
 ·rw [if_pos ha,if_pos ha,gF_row]
  obtain ⟨i,hi⟩:∃i:Nat,g 0=(i:Int):=⟨(g 0).toNat,by omega⟩
  rw [hi,Int.toNat_natCast]
  exact R15.rwrite_at i (by omega) a y _ _ _ _ (fun j=>g (j+1)) ha.1 rfl rfl rfl rfl w
 ·rw [if_neg ha,if_neg ha]
  conv=>arg 5;rw [←gF_eta g,gF_row]
  exact R15.rwrite_no a (g 0) y (fun j=>g (j+1)) ⟨a0,fun h=>.inr (by omega)⟩ w
end Go.Proofs.YtnllcknfmciebaaGreatDoor.L24
