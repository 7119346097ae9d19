/- Texts put together. -/
import Derived.Test.YtnllcknfmciebaaGreatDoorBusPlaysJ09
import Derived.Test.YtnllcknfmciebaaGreatDoorBusPlaysJ04
import Derived.OwnWalk
namespace Go.Proofs.YtnllcknfmciebaaGreatDoor.B4
set_option maxRecDepth 20000
open C3
open Go.RowKit
set_option linter.unusedVariables false
theorem rmod4_any (l:Int) (w:World):Calls Tryz.prog 84 #[.int .i64 l,.int .i64 4] w fun e w'=>e=.returned (.int .i64 (l%4))∧w'=w:=by
 obtain ⟨r,hr⟩:∃r,r=Int.tmod l 4:=⟨_,rfl⟩
 have r0 : -4<r∧r<4∧l%4=if r<0 then r+4 else r:=by
  rw [hr]
  have h1:=Int.tmod_lt_of_pos l (show (0:Int)<4 by decide)
  have h2:=Int.lt_tmod_of_pos l (show (0:Int)<4 by decide)
  refine ⟨by omega,h1,?_⟩
  have h3:=Int.tmod_eq_emod (a:=l) (b:=4)
  have h4:=Int.mul_tdiv_add_tmod l 4
  split<;>omega
 obtain ⟨r1,r2,r3⟩:=r0
 rw [r3]
 have et:Int.tmod l 4=r:=hr.symm
 clear r3 hr
 by_cases h:r<0
 ·rw [if_pos h]
  go_enter Tryz.func84,Tryz.ntmps84
  go_wp2
  go_ret
  exact ⟨rfl,rfl⟩
 ·rw [if_neg h]
  go_enter Tryz.func84,Tryz.ntmps84
  go_wp2
  go_ret
  exact ⟨rfl,rfl⟩
theorem rclass_any (n:Int) (w:World):Calls Tryz.prog 83 #[.int .i64 n] w fun e w'=>e=.returned (.tuple #[.int .i64 (kindOf n),.bool (known n)])∧w'=w:=by
 by_cases h:known n=true
 ·unfold known at h
  rw [decide_eq_true_eq] at h
  rcases h with rfl|rfl|rfl|rfl|rfl|rfl|rfl|rfl|rfl|rfl|rfl
  all_goals
   go_enter Tryz.func83,Tryz.ntmps83
   go_wp2
   go_ret2
   exact ⟨rfl,rfl⟩
 ·have e1:known n=false:=by simpa using h
  have e2:kindOf n=0:=by
   unfold known at e1;rw [decide_eq_false_iff_not] at e1
   unfold kindOf;rw [if_neg (by omega),if_neg (by omega)]
  rw [e1,e2]
  unfold known at e1
  rw [decide_eq_false_iff_not] at e1
  have n1:¬n=1:=by omega
  have n2:¬n=2:=by omega
  have n3:¬n=4:=by omega
  have n4:¬n=8:=by omega
  have n5:¬n=16:=by omega
  have n6:¬n=32:=by omega
  have n7:¬n=64:=by omega
  have n8:¬n=128:=by omega
  have n9:¬n=48:=by omega
  have nA:¬n=96:=by omega
  have nB:¬n=320:=by omega
  clear e1 e2 h
  go_enter Tryz.func83,Tryz.ntmps83
  go_wp2
  go_ret2
  exact ⟨rfl,rfl⟩
theorem rlatch_any (n l a:Int) (w:World):Calls Tryz.prog 50 #[.int .i64 n,.int .i64 l,.int .i64 a] w fun e w'=>e=.returned (.int .i64 (latchOf n l a))∧w'=w:=by
 have c:=hide (rclass_any n w)
 have kn:known n=true∧kindOf n=2↔n=320:=by
  constructor
  ·rintro ⟨h1,h2⟩
   have:=kind_cases h1
   omega
  ·rintro rfl;decide
 obtain ⟨q,hq⟩:∃q,q=latchOf n l a:=⟨_,rfl⟩
 rw [←hq]
 unfold latchOf at hq
 generalize hk:known n=kw at *
 generalize hd:kindOf n=kd at *
 go_enter Tryz.func50,Tryz.ntmps50
 go_wp2_with fail
 refine c.out.mono ?_
 rintro e w1 ⟨rfl,hw⟩
 subst w1
 cases kw with
 |false=>
  rw [if_neg (by intro h;exact Bool.noConfusion (kn.2 h.1).1)] at hq
  go_wp2_with fail
  go_ret
  exact ⟨ret_int (by first|rfl|exact hq.symm),rfl⟩
 |true=>
  by_cases h2:kd=2
  ·have hn:=kn.1 ⟨rfl,h2⟩
   by_cases h3:8176≤a
   ·by_cases h4:a<8180
    ·rw [if_pos ⟨hn,h3,h4⟩] at hq
     go_wp2_with fail
     go_ret
     exact ⟨ret_int (by first|rfl|exact hq.symm),rfl⟩
    ·rw [if_neg (by omega)] at hq
     go_wp2_with fail
     go_ret
     exact ⟨ret_int (by first|rfl|exact hq.symm),rfl⟩
   ·rw [if_neg (by omega)] at hq
    go_wp2_with fail
    go_ret
    exact ⟨ret_int (by first|rfl|exact hq.symm),rfl⟩
  ·rw [if_neg (by intro h;exact h2 (kn.2 h.1).2)] at hq
   go_wp2_with fail
   go_ret
   exact ⟨ret_int (by first|rfl|exact hq.symm),rfl⟩
theorem rpage_any (n l p:Int) (w:World):Calls Tryz.prog 34 #[.int .i64 n,.int .i64 l,.int .i64 p] w fun e w'=>e=.returned (.int .i64 (pageOf n l p))∧w'=w:=by
 have c:=hide (rclass_any n w)
 have cm:=hide (rmod4_any l w)
 obtain ⟨q,hq⟩:∃q,q=pageOf n l p:=⟨_,rfl⟩
 rw [←hq]
 have HQ:=hide hq
 clear hq
 obtain ⟨kw,hkw⟩:∃kw,kw=known n:=⟨_,rfl⟩
 obtain ⟨kd,hkd⟩:∃kd,kd=kindOf n:=⟨_,rfl⟩
 rw [←hkw,←hkd] at c
 have HKD:=hide hkd
 have HKW:=hide hkw
 clear hkd hkw
 cases kw with
 |false=>
  have HQ2:Hid (q = -1):=hide (by rw [HQ.out];unfold pageOf;rw [←HKW.out];simp)
  go_enter Tryz.func34,Tryz.ntmps34
  go_wp2_with fail
  refine c.out.mono ?_
  rintro e w1 ⟨rfl,hw⟩
  subst w1
  go_wp2_with fail
  go_ret
  exact ⟨ret_int HQ2.out.symm,rfl⟩
 |true=>
  by_cases hp:p<0
  ·have HQ2:Hid (q = -1):=hide (by rw [HQ.out];unfold pageOf;rw [if_neg (by omega)])
   go_enter Tryz.func34,Tryz.ntmps34
   go_wp2_with fail
   refine c.out.mono ?_
   rintro e w1 ⟨rfl,hw⟩
   subst w1
   go_wp2_with fail
   go_ret
   exact ⟨ret_int HQ2.out.symm,rfl⟩
  ·have hq:q=if p<64 then p%lowSize kd n else if p<128 then upFirst kd n l+p%upSize kd n else -1:=by
    rw [HQ.out];unfold pageOf;rw [if_pos ⟨HKW.out.symm,by omega⟩,←HKD.out]
   have HQ3:=hide hq
   have hkc:=kind_cases HKW.out.symm
   rw [←HKD.out] at hkc
   have HN:=hide (known_le HKW.out.symm)
   clear hq HQ
   by_cases h1:127<p
   ·have HQ2:Hid (q = -1):=hide (by rw [HQ3.out,if_neg (by omega),if_neg (by omega)])
    go_enter Tryz.func34,Tryz.ntmps34
    go_wp2_with fail
    refine c.out.mono ?_
    rintro e w1 ⟨rfl,hw⟩
    subst w1
    go_wp2_with fail
    go_ret
    exact ⟨ret_int HQ2.out.symm,rfl⟩
   ·rcases hkc with ⟨hk,hn⟩|⟨hk,hn⟩|⟨hk,hn⟩
    ·subst hk
     have hn0:=HN.out.1
     have HQ2:Hid (q=p%n):=hide (by
      rw [HQ3.out]
      split
      ·rfl
      ·rw [if_pos (by omega)];unfold upFirst upSize;simp)
     have et:Int.tmod p n=p%n:=Int.tmod_eq_emod_of_nonneg (by omega)
     go_enter Tryz.func34,Tryz.ntmps34
     go_wp2_with fail
     refine c.out.mono ?_
     rintro e w1 ⟨rfl,hw⟩
     subst w1
     go_wp2_with fail
     go_ret
     exact ⟨ret_int HQ2.out.symm,rfl⟩
    ·subst hk
     rcases hn with rfl|rfl
     ·by_cases h2:p<64
      ·have HQ2:Hid (q=p%32):=hide (by rw [HQ3.out,if_pos h2];rfl)
       go_enter Tryz.func34,Tryz.ntmps34
       go_wp2_with fail
       refine c.out.mono ?_
       rintro e w1 ⟨rfl,hw⟩
       subst w1
       go_wp2_with fail
       go_ret
       exact ⟨ret_int HQ2.out.symm,rfl⟩
      ·have HQ2:Hid (q=32+p%16):=hide (by rw [HQ3.out,if_neg h2,if_pos (by omega)];rfl)
       go_enter Tryz.func34,Tryz.ntmps34
       go_wp2_with fail
       refine c.out.mono ?_
       rintro e w1 ⟨rfl,hw⟩
       subst w1
       go_wp2_with fail
       go_ret
       exact ⟨ret_int HQ2.out.symm,rfl⟩
     ·by_cases h2:p<64
      ·have HQ2:Hid (q=p):=hide (by rw [HQ3.out,if_pos h2];show p%64=p;omega)
       go_enter Tryz.func34,Tryz.ntmps34
       go_wp2_with fail
       refine c.out.mono ?_
       rintro e w1 ⟨rfl,hw⟩
       subst w1
       go_wp2_with fail
       go_ret
       exact ⟨ret_int HQ2.out.symm,rfl⟩
      ·have HQ2:Hid (q=64+p%32):=hide (by rw [HQ3.out,if_neg h2,if_pos (by omega)];rfl)
       go_enter Tryz.func34,Tryz.ntmps34
       go_wp2_with fail
       refine c.out.mono ?_
       rintro e w1 ⟨rfl,hw⟩
       subst w1
       go_wp2_with fail
       go_ret
       exact ⟨ret_int HQ2.out.symm,rfl⟩
    ·subst hk hn
     by_cases h2:p<64
     ·have HQ2:Hid (q=p):=hide (by rw [HQ3.out,if_pos h2];show p%64=p;omega)
      go_enter Tryz.func34,Tryz.ntmps34
      go_wp2_with fail
      refine c.out.mono ?_
      rintro e w1 ⟨rfl,hw⟩
      subst w1
      go_wp2_with fail
      go_ret
      exact ⟨ret_int HQ2.out.symm,rfl⟩
     ·have HQ2:Hid (q=64*(l%4)+p):=hide (by rw [HQ3.out,if_neg h2,if_pos (by omega)];show 64+64*(l%4)+p%64=_;omega)
      go_enter Tryz.func34,Tryz.ntmps34
      go_wp2_with fail
      refine c.out.mono ?_
      rintro e w1 ⟨rfl,hw⟩
      subst w1
      go_wp2_with fail
      refine cm.out.mono ?_
      rintro e w1 ⟨rfl,hw⟩
      subst w1
      go_wp2_with fail
      go_ret
      exact ⟨ret_int HQ2.out.symm,rfl⟩
end Go.Proofs.YtnllcknfmciebaaGreatDoor.B4
namespace Go.Proofs.YtnllcknfmciebaaGreatDoor.G6
set_option maxRecDepth 20000
open Go.RowKit
set_option linter.unusedVariables false
theorem ret_three {a b c x y z:Int} (h:a=x) (k:b=y) (l:c=z):Ending.returned (.tuple #[.int .i64 a,.int .i64 b,.int .i64 c])=.returned (.tuple #[.int .i64 x,.int .i64 y,.int .i64 z]):=by rw [h,k,l]
theorem rwhere_any (p:Int) (w:World):Calls Tryz.prog 33 #[.int .i64 p] w fun e w'=>e=.returned (.tuple #[.int .i64 (kindW p),.int .i64 (pageW p),.int .i64 (atW p)])∧w'=w:=by
 by_cases h1:p<0∨2097152≤p
 ·have ek:kindW p=8:=by unfold kindW;rw [if_pos h1]
  have eg:pageW p=0:=by unfold pageW;rw [if_neg (by omega)]
  have ea:atW p=0:=by unfold atW;rw [ek];rfl
  rw [ek,eg,ea]
  by_cases k1:p<0
  ·clear h1 ek eg ea
   go_enter Tryz.func33,Tryz.ntmps33
   go_wp2
   go_ret3
   exact ⟨ret_three (by first|rfl|omega) (by first|rfl|omega) (by first|rfl|omega),rfl⟩
  ·have k2:2097151<p:=by omega
   clear h1 ek eg ea
   go_enter Tryz.func33,Tryz.ntmps33
   go_wp2
   go_ret3
   exact ⟨ret_three (by first|rfl|omega) (by first|rfl|omega) (by first|rfl|omega),rfl⟩
 ·obtain ⟨g,hg⟩:∃g,g=p/8192:=⟨_,rfl⟩
  obtain ⟨r,hr⟩:∃r,r=p%8192:=⟨_,rfl⟩
  have p0:0≤p:=by omega
  have p1:p≤2097151:=by omega
  have fg:p/8192=g:=hg.symm
  have fr:p%8192=r:=hr.symm
  by_cases h2:p<1048576
  ·have ek:kindW p=0:=by unfold kindW;rw [if_neg h1,if_pos h2]
   have eg:pageW p=p/8192:=by unfold pageW;rw [if_pos (by omega)]
   have ea:atW p=p%8192:=by unfold atW;rw [ek];rfl
   rw [ek,eg,ea,fg,fr]
   have l1:g<128:=by omega
   clear hg hr h1 ek eg ea
   go_enter Tryz.func33,Tryz.ntmps33
   go_wp2
   go_ret3
   exact ⟨ret_three (by first|rfl|omega) (by first|rfl|omega) (by first|rfl|omega),rfl⟩
  ·have eg:pageW p=0:=by unfold pageW;rw [if_neg (by omega)]
   by_cases h3:2031616≤p∧p<2064384
   ·have ek:kindW p=1:=by unfold kindW;rw [if_neg h1,if_neg h2,if_pos h3]
    have ea:atW p=p%8192:=by unfold atW;rw [ek];rfl
    rw [ek,eg,ea,fr]
    have l1:248≤g:=by omega
    have l2:g≤251:=by omega
    clear hg hr h1 ek eg ea h3
    go_enter Tryz.func33,Tryz.ntmps33
    go_wp2
    go_ret3
    exact ⟨ret_three (by first|rfl|omega) (by first|rfl|omega) (by first|rfl|omega),rfl⟩
   ·by_cases h4:p<2088960
    ·have ek:kindW p=8:=by unfold kindW;rw [if_neg h1,if_neg h2,if_neg h3,if_pos (by omega)]
     have ea:atW p=0:=by unfold atW;rw [ek];rfl
     rw [ek,eg,ea]
     have l1:128≤g:=by omega
     have l2:¬g=255:=by omega
     by_cases l3:248≤g
     ·have l4:251<g:=by omega
      clear hg hr h1 ek eg ea h3
      go_enter Tryz.func33,Tryz.ntmps33
      go_wp2
      go_ret3
      exact ⟨ret_three (by first|rfl|omega) (by first|rfl|omega) (by first|rfl|omega),rfl⟩
     ·clear hg hr h1 ek eg ea h3
      go_enter Tryz.func33,Tryz.ntmps33
      go_wp2
      go_ret3
      exact ⟨ret_three (by first|rfl|omega) (by first|rfl|omega) (by first|rfl|omega),rfl⟩
    ·have g5:g=255:=by omega
     obtain ⟨q,hq⟩:∃q,q=r/1024:=⟨_,rfl⟩
     have fq:r/1024=q:=hq.symm
     have r0:0≤r:=by omega
     by_cases h5:2095104≤p
     ·have ek:kindW p=8:=by unfold kindW;rw [if_neg h1,if_neg h2,if_neg h3,if_pos (by omega)]
      have ea:atW p=0:=by unfold atW;rw [ek];rfl
      rw [ek,eg,ea]
      have l2:5<q:=by omega
      clear hg hr h1 ek eg ea h3 hq
      subst g5
      go_enter Tryz.func33,Tryz.ntmps33
      go_wp2
      go_ret3
      exact ⟨ret_three (by first|rfl|omega) (by first|rfl|omega) (by first|rfl|omega),rfl⟩
     ·have ek:kindW p=2+q:=by unfold kindW;rw [if_neg h1,if_neg h2,if_neg h3,if_neg (by omega)];omega
      have q6:q=0∨q=1∨q=2∨q=3∨q=4∨q=5:=by omega
      rw [eg]
      clear hg h1 eg h3 hq
      subst g5
      rcases q6 with rfl|rfl|rfl|rfl|rfl|rfl
      ·have ea:atW p=r%4:=by unfold atW;rw [ek];show p%4=r%4;omega
       rw [ek,ea];clear ek ea hr
       go_enter Tryz.func33,Tryz.ntmps33
       go_wp2
       go_ret3
       exact ⟨ret_three (by first|rfl|omega) (by first|rfl|omega) (by first|rfl|omega),rfl⟩
      ·have ea:atW p=r%8:=by unfold atW;rw [ek];show p%8=r%8;omega
       rw [ek,ea];clear ek ea hr
       go_enter Tryz.func33,Tryz.ntmps33
       go_wp2
       go_ret3
       exact ⟨ret_three (by first|rfl|omega) (by first|rfl|omega) (by first|rfl|omega),rfl⟩
      ·have ea:atW p=r%16:=by unfold atW;rw [ek];show p%16=r%16;omega
       rw [ek,ea];clear ek ea hr
       go_enter Tryz.func33,Tryz.ntmps33
       go_wp2
       go_ret3
       exact ⟨ret_three (by first|rfl|omega) (by first|rfl|omega) (by first|rfl|omega),rfl⟩
      ·have ea:atW p=r%2:=by unfold atW;rw [ek];show p%2=r%2;omega
       rw [ek,ea];clear ek ea hr
       go_enter Tryz.func33,Tryz.ntmps33
       go_wp2
       go_ret3
       exact ⟨ret_three (by first|rfl|omega) (by first|rfl|omega) (by first|rfl|omega),rfl⟩
      ·have ea:atW p=0:=by unfold atW;rw [ek];rfl
       rw [ek,ea];clear ek ea hr
       go_enter Tryz.func33,Tryz.ntmps33
       go_wp2
       go_ret3
       exact ⟨ret_three (by first|rfl|omega) (by first|rfl|omega) (by first|rfl|omega),rfl⟩
      ·have ea:atW p=r%4:=by unfold atW;rw [ek];show p%4=r%4;omega
       rw [ek,ea];clear ek ea hr
       go_enter Tryz.func33,Tryz.ntmps33
       go_wp2
       go_ret3
       exact ⟨ret_three (by first|rfl|omega) (by first|rfl|omega) (by first|rfl|omega),rfl⟩
end Go.Proofs.YtnllcknfmciebaaGreatDoor.G6
