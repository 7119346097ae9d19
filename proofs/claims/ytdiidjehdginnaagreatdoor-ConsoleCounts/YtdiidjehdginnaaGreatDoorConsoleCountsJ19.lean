/- Texts put together. -/
import Derived.Test.YtdiidjehdginnaaGreatDoorRows
import Derived.Test.YtdiidjehdginnaaGreatDoorConsoleCountsJ01
import Derived.Lib.BitFns
import Derived.Lib.Walk
import Derived.Test.YtdiidjehdginnaaGreatDoorConsoleCountsJ18
import Derived.Test.YtdiidjehdginnaaGreatDoorConsoleCountsJ05
import Derived.Test.YtdiidjehdginnaaGreatDoorConsoleCountsJ17
namespace Go.Proofs.YtdiidjehdginnaaGreatDoor.N21
set_option maxHeartbeats 4000000
set_option maxRecDepth 20000
open Go.RowKit
set_option linter.unusedVariables false
variable {k x:Nat}
theorem zCQ (i:Nat) (h:i<Lib.len8tab.size):(Lib.len8tab[i]'h).toNat=Lib.bitLen i:=by
 have hi:i<256:=by rw [←Lib.len8tab_size];exact h
 have e:=Lib.len8_eq ⟨i,hi⟩;have e2:Lib.len8 (i:Int)=((Lib.len8tab[i]'h).toNat:Int):=by
  unfold Lib.len8;rw [Int.toNat_natCast,getElem?_pos Lib.len8tab i h];rfl
 rw [e2] at e
 exact_mod_cast e
theorem zeL {x y:Int} (c:Nat) (hc:c≤56) (hx:x.toNat<2 ^ 64) (hy:y.toNat=x.toNat/2 ^ c) (hlo:c=0∨2 ^ c≤x.toNat) (h:y.toNat<Lib.len8tab.size):
  wrap64 ((c:Int)+wrap64 ((Lib.len8tab[y.toNat]'h).toNat:Int))=((Lib.bitLen x.toNat:Nat):Int):=by
 rw [zCQ];have l:Lib.bitLen y.toNat≤8:=Lib.bitLen_le8 ⟨y.toNat,by rw [←Lib.len8tab_size];exact h⟩;have e:Lib.bitLen x.toNat=c+Lib.bitLen y.toNat:=by
  rw [hy];rcases hlo with rfl|hlo
  ·rw [Nat.pow_zero,Nat.div_one,Nat.zero_add]
  ·exact Lib.bitLen_shift c _ hlo hx
 rw [e];unfold wrap64;omega
set_option maxRecDepth 100000 in
theorem ztI (x:Int) (w:World) (h0:0≤x) (h1:x<9223372036854775808):
  Calls Tryz.prog 272 #[.int .u64 x] w fun e w'=>e=.returned (.int .i64 ((Lib.bitLen x.toNat:Nat):Int))∧w'=w:=by
 have hsz:=Lib.len8tab_size;go_enter Tryz.func272,Tryz.ntmps272;go_wp2
 all_goals (go_ret;refine ⟨zat ?_,rfl⟩)
 all_goals (first
  |exact zeL 56 (by decide) (by omega) (by omega) (.inr (by omega)) _
  |exact zeL 48 (by decide) (by omega) (by omega) (.inr (by omega)) _
  |exact zeL 40 (by decide) (by omega) (by omega) (.inr (by omega)) _
  |exact zeL 32 (by decide) (by omega) (by omega) (.inr (by omega)) _
  |exact zeL 24 (by decide) (by omega) (by omega) (.inr (by omega)) _
  |exact zeL 16 (by decide) (by omega) (by omega) (.inr (by omega)) _
  |exact zeL 8 (by decide) (by omega) (by omega) (.inr (by omega)) _
  |(have k:=zeL (x:=x) (y:=x) 0 (by decide) (by omega) (by rw [Nat.pow_zero,Nat.div_one]) (.inl rfl) (by omega)
    rw [Int.natCast_zero,Int.zero_add] at k
    exact k))
theorem len_any (x:Int) (w:World) (h0:0≤x) (h1:x<9223372036854775808):
  Calls Tryz.prog 254 #[.int .u64 x] w fun e w'=>e=.returned (.int .i64 ((Lib.bitLen x.toNat:Nat):Int))∧w'=w:=by
 go_enter Tryz.func254,Tryz.ntmps254;go_wp2_with (go_at_call 272;refine (ztI _ _ h0 h1).mono ?_;rintro e w' ⟨rfl,rfl⟩);go_ret;exact ⟨rfl,rfl⟩
theorem zhl:∀(f x:Nat),x<2 ^ f→x<2 ^ Lib.bitLenAux f x
 |0,x,h=>h
 |f+1,x,h=>by
  unfold Lib.bitLenAux;split
  ·omega
  ·have k:=zhl f (x/2) (by rw [Nat.pow_succ] at h;omega);rw [Nat.add_comm,Nat.pow_succ];omega
theorem ztJ (h:x<2 ^ 64):x<2 ^ Lib.bitLen x:=zhl 64 x h
theorem ztK (h:x<9223372036854775808):Lib.bitLen x≤63:=Lib.bitLen_le x 63 (by decide) h
def colN (m:Nat):Nat→Nat:=fun i=>zbQ (2 ^ i) m
theorem zkL (m:Nat):∀i,i<18→colN m i<262144:=fun i hi=>zgq (zxm hi).2 m
theorem zqh (m:Nat):∀i,i<18→zdm (colN m) (colN m i) 18=colN (m+m) i:=fun i hi=>by
 rw [znY (f:=colN m) m (fun _ _=>rfl) (zkL m i hi)];unfold colN;rw [ziA]
theorem ztL (h:0<k):2 ^ (k-1)+2 ^ (k-1)=2 ^ k:=by
 obtain ⟨j,rfl⟩:∃j,k=j+1:=⟨k-1,by omega⟩
 rw [Nat.add_sub_cancel,Nat.pow_succ];omega
theorem zww {s n:Nat} (h:n/2 ^ k%2=1):zbQ (zbQ s (n%2 ^ k)) (2 ^ k)=zbQ s (n%2 ^ (k+1)):=by
 rw [Nat.mod_pow_succ,h,Nat.mul_one,ziA]
theorem zwx {s n:Nat} (h:¬n/2 ^ k%2=1):zbQ s (n%2 ^ k)=zbQ s (n%2 ^ (k+1)):=by
 rw [Nat.mod_pow_succ,show n/2 ^ k%2=0 by omega,Nat.mul_zero,Nat.add_zero]
theorem ztM (s n:Int) (h:n<1) (w:World):Calls Tryz.prog 221 #[.int .i64 s,.int .i64 n] w fun e w'=>e=.returned (.int .i64 ((zbQ (stOf s) n.toNat:Nat):Int))∧Below w.heap.size w w':=by
 have HN:Hid (n.toNat=0):=hide (by omega);go_enter Tryz.func221,Tryz.ntmps221;go_wp2_with (go_at_call 252;refine (zek _ _).mono ?_;rintro e w' ⟨rfl,hw⟩;subst w');go_ret;exact ⟨zat (by rw [HN.out];rfl),Below.refl _ _⟩
theorem ztN (s : Int) (n : Nat) (h0 : 1 ≤ n) (h1 : n < 9223372036854775808) (w : World) : Calls Tryz.prog 221 #[.int .i64 s, .int .i64 (n : Int)] w fun e w' => e = .returned (.int .i64 ((zbQ (stOf s) n : Nat) : Int)) ∧ Below w.heap.size w w' := by
  have K := fun w => zek s w
  obtain ⟨x0, x1⟩ := ztl s
  obtain ⟨x, hx⟩ : ∃ x, x = stOf s := ⟨_, rfl⟩
  rw [← hx] at K x0 x1 ⊢
  have KS := hide K
  clear hx K
  go_enter Tryz.func221, Tryz.ntmps221
  go_wp2_with (go_at_call 252; refine (KS.out _).mono ?_; rintro e w' ⟨rfl, hw⟩; subst w')
  go_wp2_with (first
    | (go_at_call 253; refine (zmM _).mono ?_; rintro e w1 ⟨rfl, b1⟩)
    | (refine zav rfl 310 rfl (rowL fun _ => 0) ztv ?_)
    | (refine wpList_store_row rfl 310 (.tmp 5) (.tmp 12) rfl w1.heap.size _ rfl rfl 310 _ (zkF w1 _) (zcS _) (by rw [zbB, zbB]) (zgs _) ?_
       refine zaj fun w2 hw2 => ?_
       have M1 : Hid (HasL w2 w1.heap.size (colN 1)) := hide (by rw [hw2]; exact setRow_heap _ _ _ _ _ _ (zkF w1 _))
       have MB : Hid (Below w.heap.size w w2) := hide (by rw [hw2]; exact below_setRow (b1.alloc b1.size _) b1.size _)
       have MG := hide b1.size
       clear hw2 b1)
    | (go_at_call 254; refine (len_any _ _ (by omega) (by omega)).mono ?_; rintro e w' ⟨rfl, hw⟩; subst w'))
  have L1 := ztK h1
  have LN := hide (ztJ (x := n) (by omega))
  generalize Lib.bitLen n = L at *
  generalize w1.heap.size = g at *
  go_loopw [0, 16] (fun t i w' => ∃ k : Nat, k ≤ L ∧ i = .int .i64 k ∧ t = .int .i64 ((zbQ x (n % 2 ^ k) : Nat) : Int) ∧ HasL w' g (colN (2 ^ (k - 1))) ∧ Below w.heap.size w w') (fun _ i _ => L - (intOf i).toNat)
  case atStart => exact ⟨0, Nat.zero_le _, rfl, by rw [Nat.pow_zero, Nat.mod_one]; rfl, M1.out, MB.out⟩
  case round =>
    clear M1 MB
    obtain ⟨k, hk, rfl, rfl, h2, hB⟩ := hrel
    have H2 := hide h2
    have HB := hide hB
    clear h2 hB
    by_cases hlt : k < L
    · have jl := zgq x1 (n % 2 ^ k)
      have JY := hide (fun h => zww (s := x) (n := n) (k := k) h)
      have JN := hide (fun h => zwx (s := x) (n := n) (k := k) h)
      generalize zbQ x (n % 2 ^ k) = t at *
      have hsh := ztw n k
      have HF := hide (fun (f : Nat → Nat) (e : ∀ i, i < 18 → f i = colN (2 ^ k) i) => znY (f := f) (2 ^ k) e jl)
      by_cases hz : k = 0
      · subst hz
        have hsh : bits .and .i64 (n : Int) 1 = ((n / 2 ^ 0 % 2 : Nat) : Int) := by
          rw [zho, Nat.pow_zero, Nat.div_one]
          omega
        have H1 : Hid (HasL wr g (colN 1)) := H2
        by_cases hb : n / 2 ^ 0 % 2 = 1
        · rw [hb] at hsh
          have HQ := hide (JY.out hb)
          go_wp2_with (first
            | (refine wpList_load_row rfl 310 (.tmp 5) rfl g rfl _ _ _ _ H1.out Tryz.underlying310 rfl (zcS _) ?_)
            | (go_at_call 256; refine (zkG _ (zkL _) t jl _).mono ?_; rintro e w4 ⟨rfl, b4⟩))
          exact ⟨⟨1, by omega, rfl, by rw [HF.out _ (fun _ _ => rfl), HQ.out], H1.out.next b4, zaz HB.out b4⟩, by simp [intOf]; omega⟩
        · rw [show n / 2 ^ 0 % 2 = 0 by omega] at hsh
          have HQ := hide (JN.out hb)
          go_wp2_with fail
          exact ⟨⟨1, by omega, rfl, by rw [HQ.out], H1.out, HB.out⟩, by simp [intOf]; omega⟩
      · have TW := hide (fun i (hi : i < 18) => (zqh (2 ^ (k - 1)) i hi).trans (by rw [ztL (by omega)]))
        have HC := hide (zkL (2 ^ (k - 1)))
        obtain ⟨f, hf⟩ : ∃ f, f = colN (2 ^ (k - 1)) := ⟨_, rfl⟩
        rw [← hf] at TW HC H2
        clear hf
        have HE := hide (show k + 1 - 1 = k by omega)
        by_cases hb : n / 2 ^ k % 2 = 1
        · rw [hb] at hsh
          have HQ := hide (JY.out hb)
          go_wp2_with (first
            | (refine wpList_load_row rfl 310 (.tmp 5) rfl g rfl _ _ _ _ H2.out Tryz.underlying310 rfl (zcS _) ?_)
            | (go_at_call 255; refine (ziD f HC.out _).mono ?_; rintro e w4 ⟨rfl, b4⟩; have H4 := hide (H2.out.next b4); replace HB := hide (zaz HB.out b4); clear b4 H2)
            | (refine wpList_store_row rfl 310 (.tmp 5) (.tmp 22) rfl g _ rfl rfl 310 _ H4.out (zcS _) (by rw [zbB, zbB]) (zgs _) ?_; refine zaj fun w5 hw5 => ?_; have H5 : Hid (HasL w5 g (colN (2 ^ k))) := hide (by rw [hw5]; exact HasL.ext (setRow_heap _ _ _ _ _ _ H4.out) TW.out); replace HB : Hid (Below w.heap.size w w5) := hide (by rw [hw5]; exact below_setRow HB.out MG.out _); clear hw5 H4)
            | (refine wpList_load_row rfl 310 (.tmp 5) rfl g rfl _ _ _ _ H5.out Tryz.underlying310 rfl (zcS _) ?_)
            | (go_at_call 256; refine (zkG _ (zkL _) t jl _).mono ?_; rintro e w6 ⟨rfl, b6⟩))
          exact ⟨⟨k + 1, by omega, by go_num, by rw [HF.out _ (fun _ _ => rfl), HQ.out], by rw [HE.out]; exact H5.out.next b6, zaz HB.out b6⟩, by simp [intOf]; omega⟩
        · rw [show n / 2 ^ k % 2 = 0 by omega] at hsh
          have HQ := hide (JN.out hb)
          go_wp2_with (first
            | (refine wpList_load_row rfl 310 (.tmp 5) rfl g rfl _ _ _ _ H2.out Tryz.underlying310 rfl (zcS _) ?_)
            | (go_at_call 255; refine (ziD f HC.out _).mono ?_; rintro e w4 ⟨rfl, b4⟩; have H4 := hide (H2.out.next b4); replace HB := hide (zaz HB.out b4); clear b4 H2)
            | (refine wpList_store_row rfl 310 (.tmp 5) (.tmp 22) rfl g _ rfl rfl 310 _ H4.out (zcS _) (by rw [zbB, zbB]) (zgs _) ?_; refine zaj fun w5 hw5 => ?_; have H5 : Hid (HasL w5 g (colN (2 ^ k))) := hide (by rw [hw5]; exact HasL.ext (setRow_heap _ _ _ _ _ _ H4.out) TW.out); replace HB : Hid (Below w.heap.size w w5) := hide (by rw [hw5]; exact below_setRow HB.out MG.out _); clear hw5 H4))
          exact ⟨⟨k + 1, by omega, by go_num, by rw [HQ.out], by rw [HE.out]; exact H5.out, HB.out⟩, by simp [intOf]; omega⟩
    · obtain rfl : k = L := by omega
      go_wp2
      go_ret
      exact ⟨zat (by rw [Nat.mod_eq_of_lt LN.out]), HB.out⟩
theorem zwy (s n:Int) (h:n<9223372036854775808) (w:World):Calls Tryz.prog 221 #[.int .i64 s,.int .i64 n] w fun e w'=>e=.returned (.int .i64 ((zbQ (stOf s) n.toNat:Nat):Int))∧Below w.heap.size w w':=by
 by_cases h1:n<1
 ·exact ztM s n h1 w
 ·obtain ⟨m,rfl⟩:=Int.eq_ofNat_of_zero_le (show 0≤n by omega);exact ztN s m (by omega) (by omega) w
end Go.Proofs.YtdiidjehdginnaaGreatDoor.N21
namespace Go.Proofs.YtdiidjehdginnaaGreatDoor.P22
set_option maxHeartbeats 4000000
set_option maxRecDepth 20000
open N21
open Go.RowKit
set_option linter.unusedVariables false
variable {x y:Int} {B b g k:Nat} {A P f:Nat→Int} {w:World}
theorem ztO (h:HasF 208 w b 288 (vrow f A P)) (hk:k<6):w.cell? ⟨b,k*48,none⟩=some (.int .i64 (ch f k 37)):=(h.at (k*48+0) (by omega)).trans (by rw [zct _ _ _ _ _ (by decide)];rfl)
theorem zCR (h:HasF 208 w b 288 (vrow f A P)) (hk:k<6):w.cell? ⟨b,k*48+1,none⟩=some (.int .i64 (P k)):=(h.at (k*48+1) (by omega)).trans (by rw [zct _ _ _ _ _ (by decide)];rfl)
theorem zgu (h:HasF 208 w b 288 (vrow f A P)) (hk:k<6) (j:Nat) (hj:j<40) (h7:j≠37):w.cell? ⟨b,k*48+2+j,none⟩=some (.int .i64 (ch f k j)):=by
 have e:=h.at (k*48+(2+j)) (by omega);rw [zct _ _ _ _ _ (by omega)] at e;unfold vAt at e;rw [if_neg (by omega),if_neg (by omega),if_pos (by omega),if_neg (by omega),show 2+j-2=j by omega] at e;rw [show k*48+2+j=k*48+(2+j) by omega];exact e
theorem v_ny (h:HasF 208 w b 288 (vrow f A P)) (hk:k<6):w.cell? ⟨b,k*48+42,none⟩=some (.bool (nyOf f k)):=(h.at (k*48+42) (by omega)).trans (by rw [zct _ _ _ _ _ (by decide)];rfl)
theorem v_dr (h:HasF 208 w b 288 (vrow f A P)) (hk:k<6):w.cell? ⟨b,k*48+43,none⟩=some (.bool (drOf f k)):=(h.at (k*48+43) (by omega)).trans (by rw [zct _ _ _ _ _ (by decide)];rfl)
theorem v_go (h:HasF 208 w b 288 (vrow f A P)) (hk:k<6):w.cell? ⟨b,k*48+44,none⟩=some (.bool (goOf f k)):=(h.at (k*48+44) (by omega)).trans (by rw [zct _ _ _ _ _ (by decide)];rfl)
theorem v_he (h:HasF 208 w b 288 (vrow f A P)) (hk:k<6):w.cell? ⟨b,k*48+45,none⟩=some (.bool (heOf f k)):=(h.at (k*48+45) (by omega)).trans (by rw [zct _ _ _ _ _ (by decide)];rfl)
theorem v_gl (h:HasF 208 w b 288 (vrow f A P)) (hk:k<6):w.cell? ⟨b,k*48+46,none⟩=some (.int .i64 (glOf f k)):=(h.at (k*48+46) (by omega)).trans (by rw [zct _ _ _ _ _ (by decide)];rfl)
theorem v_gr (h:HasF 208 w b 288 (vrow f A P)) (hk:k<6):w.cell? ⟨b,k*48+47,none⟩=some (.int .i64 (grOf f k)):=(h.at (k*48+47) (by omega)).trans (by rw [zct _ _ _ _ _ (by decide)];rfl)
theorem zel (n l:Int) (w:World):Calls Tryz.prog 165 #[.int .i64 n,.int .i64 l] w fun e w'=>e=Ending.returned (.int .i64 (orL n l))∧w'=w:=by
 by_cases h:n=0
 ·have HQ:Hid (orL n l=l):=hide (by unfold orL;rw [if_pos h]);go_enter Tryz.func165,Tryz.ntmps165;go_wp2;go_ret;exact ⟨zat HQ.out.symm,rfl⟩
 ·have HQ:Hid (orL n l=n):=hide (by unfold orL;rw [if_neg h]);go_enter Tryz.func165,Tryz.ntmps165;go_wp2;go_ret;exact ⟨zat HQ.out.symm,rfl⟩
theorem zwz (h:HasF 208 w b 288 (vrow f A P)) (hk:k<6) (u v:Int) (n:Nat):HasF 208 (((w.setCell ⟨b,k*48,none⟩ (.int .i64 u)).drewN n).setCell ⟨b,k*48,none⟩ (.int .i64 v)) b 288 (vrow (up f (4+k*40+37) v) A P):=by
 have h1:HasF 208 ((w.setCell ⟨b,k*48,none⟩ (.int .i64 u)).drewN n) b 288 (vrow (up f (4+k*40+37) u) A P):=(h.set (k*48) (.int .i64 u)).ext (zjv f A P k u);have h2:=(h1.set (k*48) (.int .i64 v)).ext (zjv _ A P k v);rw [up_up] at h2;exact h2
theorem ztP (h:HasF 208 w b 288 (vrow f A P)) (hk:k<6) (t p:Int) (ht:ch f k 37=t) (hp:P k=p) (t0:0≤t) (t1:t≤16777215) (p0:0<p) (p1:p≤16777216):
  Calls Tryz.prog 220 #[.pointer (some ⟨b,k*48,none⟩)] w fun e w'=>e=Ending.returned (.int .i64 ((t+455)/p))∧HasF 208 w' b 288 (vrow (up f (4+k*40+37) ((t+455)%p)) A P)∧But b w w':=by
 have c0:=ztO h hk;have c1:=zCR h hk;have fr:=h.frozen (k*48);rw [ht] at c0;rw [hp] at c1;have HH:=hide h;have q:=zmJ (t:=t+455) (p:=p) (by omega) (by omega) p0;have d1:Int.tdiv (t+455) p=(t+455)/p:=Int.tdiv_eq_ediv_of_nonneg (by omega);have d2:Int.tmod (t+455) p=(t+455)%p:=Int.tmod_eq_emod_of_nonneg (by omega);clear h ht hp;generalize (t+455)/p=Q at *;generalize (t+455)%p=R at *;generalize ho:k*48=o at *;go_enter Tryz.func220,Tryz.ntmps220;go_wp2_with fail;go_quiet (fail);go_wp2_with fail;go_region
 all_goals (try go_wp2)
 go_ret;subst ho;exact ⟨rfl,zwz HH.out hk _ _ _,(((But.refl b w).set _ _).drewN _).set _ _⟩
theorem zkM (h:HasF 208 w b 288 (vrow f A P)) (hk:k<6) (ok:okP f) (p0:0<P k) (p1:P k≤16777216):
  Calls Tryz.prog 166 #[.pointer (some ⟨b,k*48,none⟩)] w fun e w'=>e=Ending.returned (.tuple #[])∧HasF 208 w' b 288 (vrow (onP f k (P k)) A P)∧But b w w':=by
 obtain ⟨x0,x1,x2,x3,x4,x5,x6,x7,x8⟩:=ok.chan hk;have cg:=v_go h hk;rcases hg:goOf f k with _|_
 ·have HQ:Hid (onP f k (P k)=f):=hide (by unfold onP;rw [hg];rfl);rw [hg] at cg;have HH:=hide h;clear h hg x8;go_enter Tryz.func166,Tryz.ntmps166;go_wp2;refine bodyPost_ret (results_none rfl _ _ _) rfl ?_;exact ⟨rfl,by rw [HQ.out];exact HH.out,But.refl _ _⟩
 ·rw [hg] at cg;have KT:=hide (ztP h hk (ch f k 37) (P k) rfl rfl x5.1 x5.2 p0 p1);obtain ⟨f1,hf1⟩:∃f1,up f (4+k*40+37) ((ch f k 37+455)%P k)=f1:=⟨_,rfl⟩
  have al:Alike f f1:=by rw [←hf1];exact zdB f k 37 _ (by simp)
  have r1:ch f1 k 38=ch f k 38:=by rw [←hf1,zdq _ _ _ _ _ _ (by decide) (by decide),if_neg (by omega)]
  have i1:ch f1 k 36=ch f k 36:=by rw [←hf1,zdq _ _ _ _ _ _ (by decide) (by decide),if_neg (by omega)]
  have q:=zmJ (t:=ch f k 37+455) (p:=P k) (by omega) (by omega) p0;have HD:Hid (onP f k (P k)=if nyOf f k=true then up f1 (4+k*40+38) ((zbQ (ch f k 38).toNat ((ch f k 37+455)/P k).toNat:Nat):Int) else up f1 (4+k*40+36) ((ch f k 36+(ch f k 37+455)/P k)%32)):=hide (by unfold onP;rw [if_pos hg,hf1]);rw [hf1] at KT;have AN:=al.ny k;obtain ⟨q0,q1,q2,q3⟩:=q;clear q2 q3 hf1 x8 al hg h;generalize (ch f k 37+455)/P k=Q at *;generalize ch f k 38=rn at *;generalize ch f k 36=ix at *;obtain ⟨o,ho⟩:∃o,k*48=o:=⟨_,rfl⟩
  rcases hn:nyOf f k with _|_
  ·rw [hn] at HD AN;have CN:∀w1,HasF 208 w1 b 288 (vrow f1 A P)→w1.cell? ⟨b,o+42,none⟩=some (.bool false)∧w1.cell? ⟨b,o+2+36,none⟩=some (.int .i64 ix)∧w1.frozen? ⟨b,o+2+36,none⟩=false:=fun w1 h1=>by
    have a:=v_ny h1 hk;have c:=zgu h1 hk 36 (by decide) (by decide);rw [AN,ho] at a;rw [i1,ho] at c;exact ⟨a,c,h1.frozen _⟩
   have CE:Hid (∀w1,HasF 208 w1 b 288 (vrow f1 A P)→HasF 208 (w1.setCell ⟨b,o+2+36,none⟩ (.int .i64 ((ix+Q)%32))) b 288 (vrow (onP f k (P k)) A P)):=hide (fun w1 h1=>by
    rw [HD.out,if_neg (by decide),←ho]
    exact (h1.set _ _).ext (zqa f1 A P k _))
   have HC:=hide CN;rw [ho] at KT cg ⊢;clear CN hn AN r1 i1 ho HD;go_enter Tryz.func166,Tryz.ntmps166
   go_wp2_with (first
    |(go_at_call 220;refine KT.out.mono ?_;rintro e w1 ⟨rfl,h1,b1⟩;obtain ⟨d1,d2,d3⟩:=HC.out w1 h1;have H1:=hide h1;have B1:=hide b1;clear h1 b1)
    |(go_at_call 222;refine (znp b (o+2) ix Q _ d2 d3 (by omega) (by omega) (by omega) (by omega)).mono ?_;rintro e w2 ⟨rfl,hw⟩;subst w2))
   go_end0;exact ⟨rfl,CE.out _ H1.out,B1.out.set _ _⟩
  ·rw [hn] at HD AN;have CN:∀w1,HasF 208 w1 b 288 (vrow f1 A P)→w1.cell? ⟨b,o+42,none⟩=some (.bool true)∧w1.cell? ⟨b,o+2+38,none⟩=some (.int .i64 rn)∧w1.frozen? ⟨b,o+2+38,none⟩=false:=fun w1 h1=>by
    have a:=v_ny h1 hk;have c:=zgu h1 hk 38 (by decide) (by decide);rw [AN,ho] at a;rw [r1,ho] at c;exact ⟨a,c,h1.frozen _⟩
   have es:stOf rn=rn.toNat:=by
    have e:=ziy (s:=rn.toNat) (by omega) (by omega);rw [show ((rn.toNat:Nat):Int)=rn by omega] at e;exact e
   have KJ:=hide (fun w=>zwy rn Q (by omega) w);rw [es] at KJ
   have CE:Hid (∀w1,HasF 208 w1 b 288 (vrow f1 A P)→HasF 208 (w1.setCell ⟨b,o+2+38,none⟩ (.int .i64 ((zbQ rn.toNat Q.toNat:Nat):Int))) b 288 (vrow (onP f k (P k)) A P)):=hide (fun w1 h1=>by
    rw [HD.out,if_pos rfl,←ho]
    exact (h1.set _ _).ext (ztu f1 A P k _))
   have HC:=hide CN;rw [ho] at KT cg ⊢;clear CN hn AN r1 i1 ho HD es;generalize zbQ rn.toNat Q.toNat=J at *;go_enter Tryz.func166,Tryz.ntmps166
   go_wp2_with (first
    |(go_at_call 220;refine KT.out.mono ?_;rintro e w1 ⟨rfl,h1,b1⟩;obtain ⟨d1,d2,d3⟩:=HC.out w1 h1;have H1:=hide h1;have B1:=hide b1;clear h1 b1)
    |(go_at_call 221;refine (KJ.out _).mono ?_;rintro e w2 ⟨rfl,b2⟩;have H2:=hide (H1.out.next b2);obtain ⟨g1,g2,g3⟩:=HC.out w2 H2.out;replace B1:=hide (B1.out.andBelow b2);clear b2 d1 d2 d3))
   go_end0;exact ⟨rfl,CE.out _ H2.out,B1.out.set _ _⟩
theorem ztQ (h:HasF 208 w b 288 (vrow f A P)) (hk:k<6) (ok:okP f):Calls Tryz.prog 168 #[.pointer (some ⟨b,k*48,none⟩)] w fun e w'=>e=Ending.returned (.int .i64 (valK f k))∧Below w.heap.size w w':=by
 obtain ⟨x0,x1,x2,x3,x4,x5,x6,x7,x8⟩:=ok.chan hk;have cd:=v_dr h hk;have cn:=v_ny h hk;rcases hd:drOf f k with _|_
 ·rw [hd] at cd;rcases hn:nyOf f k with _|_
  ·rw [hn] at cn;have c0:=zgu h hk 36 (by decide) (by decide);have c1:=zgu h hk (4+(ch f k 36).toNat) (by omega) (by omega);have HQ:Hid (valK f k=ch f k (4+(ch f k 36).toNat)):=hide (by unfold valK;rw [hd,hn];rfl);rw [show k*48+2+(4+(ch f k 36).toNat)=k*48+2+4+(ch f k 36).toNat by omega] at c1;clear h hd hn x8;generalize ch f k (4+(ch f k 36).toNat)=v at *;generalize ch f k 36=ix at *;generalize k*48=o at *;go_enter Tryz.func168,Tryz.ntmps168;go_wp2_with fail;go_quiet (fail);go_wp2_with fail;go_ret;exact ⟨zat HQ.out.symm,zeO (Below.refl _ _) _⟩
  ·rw [hn] at cn;have c0:=zgu h hk 38 (by decide) (by decide);have HQ:Hid (valK f k=31*(ch f k 38%2)):=hide (by unfold valK;rw [hd,hn];rfl);have es:((stOf (ch f k 38):Nat):Int)=ch f k 38:=by
    have e:=ziy (s:=(ch f k 38).toNat) (by omega) (by omega);rw [show (((ch f k 38).toNat:Nat):Int)=ch f k 38 by omega] at e;rw [e];omega
   have KO:=hide (fun w=>zzx (ch f k 38) w);rw [es] at KO;clear h hd hn x8 es;generalize ch f k 38=rn at *;generalize k*48=o at *;go_enter Tryz.func168,Tryz.ntmps168;go_wp2_with (go_at_call 223;refine (KO.out _).mono ?_;rintro e w' ⟨rfl,hw⟩;subst w');go_ret;exact ⟨zat HQ.out.symm,Below.refl _ _⟩
 ·rw [hd] at cd;have c0:=zgu h hk 39 (by decide) (by decide);have HQ:Hid (valK f k=ch f k 39):=hide (by unfold valK;rw [hd];rfl);clear h hd x8;generalize ch f k 39=v at *;generalize k*48=o at *;go_enter Tryz.func168,Tryz.ntmps168;go_wp2_with fail;go_ret;exact ⟨zat HQ.out.symm,Below.refl _ _⟩
theorem zqi (h:HasF 208 w b 288 (vrow f A P)) (ok:okP f) (h0:zbS f≠0):Calls Tryz.prog 167 #[.pointer (some ⟨b,0,none⟩),.int .i64 (zbS f)] w fun e w'=>e=Ending.returned (.int .i64 (frq f))∧Below w.heap.size w w':=by
 obtain ⟨x0,x1,x2,x3,x4,x5,x6,x7,x8⟩:=ok.chan (k:=1) (by decide);have y0:=(ok.chan (k:=0) (by decide)).1;have hl:=zkx ok;have c0:=zgu h (k:=1) (by decide) 36 (by decide) (by decide);have c1:=zgu h (k:=1) (by decide) (4+(ch f 1 36).toNat) (by omega) (by omega);have c2:=zgu h (k:=0) (by decide) 0 (by decide) (by decide);have w8:=x8 (ch f 1 36).toNat (by omega);have HQ:=hide (show frq f=(ch f 0 0+(ch f 1 (4+(ch f 1 36).toNat)-16)*4 ^ (zbS f-1).toNat)%4096 from rfl);rw [show 1*48+2+(4+(ch f 1 36).toNat)=54+(ch f 1 36).toNat by omega] at c1;rw [show 1*48+2+36=86 by rfl] at c0;rw [show 0*48+2+0=2 by rfl] at c2;have HH:=hide h.lt;clear h x8;generalize ch f 1 (4+(ch f 1 36).toNat)=v at *;generalize ch f 1 36=ix at *;generalize ch f 0 0=fr at *;generalize zbS f=m at *;obtain ⟨N,hN⟩:∃N:Nat,m=(N:Int)+1:=⟨(m-1).toNat,by omega⟩
 have hN2:N≤2:=by omega
 rw [show (m-1).toNat=N by omega] at HQ;subst hN;have HM:=hide (fun d:Int=>zlj (fr+d));clear hl h0;go_enter Tryz.func167,Tryz.ntmps167;go_wp2_with fail;go_quiet (fail);go_wp2_with fail;go_loopw [6,23] (fun d i w'=>∃j:Nat,j≤N∧i=.int .i64 j∧d=.int .i64 ((v-16)*4 ^ j)∧w'=w.drewN nq) (fun _ i _=>N-(intOf i).toNat)
 case atStart=>exact ⟨0,Nat.zero_le _,rfl,by rw [Int.pow_zero,Int.mul_one],rfl⟩
 case round=>
  obtain ⟨j,hj,rfl,rfl,hw⟩:=hrel
  by_cases hlt:j<N
  ·have e4:(v-16)*4 ^ (j+1)=(v-16)*4 ^ j*4:=by rw [Int.pow_succ,Int.mul_assoc]
   have hb : -64≤(v-16)*4 ^ j∧(v-16)*4 ^ j≤64:=by
    rcases (show j=0∨j=1 by omega) with rfl|rfl
    ·rw [Int.pow_zero];omega
    ·rw [Int.pow_succ,Int.pow_zero];omega
   have HE:=hide e4;clear e4;generalize (v-16)*4 ^ j=d at *;go_wp2_with fail;exact ⟨⟨j+1,by omega,by go_num,by rw [HE.out],trivial⟩,by simp [intOf];omega⟩
  ·obtain rfl:j=N:=by omega
   have hb : -256≤(v-16)*4 ^ j∧(v-16)*4 ^ j≤256:=by
    rcases (show j=0∨j=1∨j=2 by omega) with rfl|rfl|rfl
    ·rw [Int.pow_zero];omega
    ·rw [Int.pow_succ,Int.pow_zero];omega
    ·rw [Int.pow_succ,Int.pow_succ,Int.pow_zero];omega
   have m:=HM.out ((v-16)*4 ^ j);have c3:wr.cell? ⟨b,2,none⟩=some (.int .i64 fr):=by rw [hw];exact c2
   have HB:Hid (Below w.heap.size w wr):=hide (by rw [hw];exact zeO (Below.refl _ _) _);clear hw c0 c1 c2;generalize (v-16)*4 ^ j=d at *;go_wp2_with fail;go_ret;exact ⟨zat (by rw [HQ.out]),HB.out⟩
theorem zxw (x y:Int) (w:World):(Instr.index 205 (.agg #[.int .i64 x,.int .i64 y]) (.int .i64 0)).run Tryz.prog w=.ok (.int .i64 x) w:=by kernel_rfl
theorem zxx (x y:Int) (w:World):(Instr.index 205 (.agg #[.int .i64 x,.int .i64 y]) (.int .i64 1)).run Tryz.prog w=.ok (.int .i64 y) w:=by kernel_rfl
def Smp (w:World) (g:Nat) (x y:Int):Prop:=w.heap[g]? = some (.cells #[.int .i64 x,.int .i64 y] 205 (0,0))
theorem Smp.c0 (h:Smp w g x y):w.cell? ⟨g,0,none⟩=some (.int .i64 x):=(cell_of_row w g 0 _ _ _ h).trans rfl
theorem Smp.c1 (h:Smp w g x y):w.cell? ⟨g,1,none⟩=some (.int .i64 y):=(cell_of_row w g 1 _ _ _ h).trans rfl
theorem Smp.frozen (h:Smp w g x y) (j:Nat):w.frozen? ⟨g,j,none⟩=false:=frozen_of_row w g j _ _ h
theorem Smp.next {w':World} (h:Smp w g x y) (k:Below w.heap.size w w'):Smp w' g x y:=(k.block g (lt_of_block h)).trans h
theorem Smp.set0 (h:Smp w g x y) (v:Int):Smp (w.setCell ⟨g,0,none⟩ (.int .i64 v)) g v y:=heap_setCell_same w g 0 _ _ (.int .i64 v) h
theorem Smp.set1 (h:Smp w g x y) (v:Int):Smp (w.setCell ⟨g,1,none⟩ (.int .i64 v)) g x v:=heap_setCell_same w g 1 _ _ (.int .i64 v) h
theorem zeM {a:World} (h:Below B w a) (hg:B≤g) (o:Nat) (v:Value):Below B w (a.setCell ⟨g,o,none⟩ v):=Below.setCell (p:=⟨g,o,none⟩) h hg _
theorem zzP (h:HasF 208 w b 288 (vrow f A P)) (ok:okP f):Calls Tryz.prog 100 #[.pointer (some ⟨b,0,none⟩)] w fun e w'=>e=Ending.returned (.agg #[.int .i64 (zju f),.int .i64 (zgU f)])∧Below w.heap.size w w':=by
 have HO:=hide ok;have HH:=hide h;have HL:=hide h.lt;clear ok h;go_enter Tryz.func100,Tryz.ntmps100;go_wp2_with fail;refine under_name fun wa hwa=>?_
 obtain ⟨n0,n1,n2,n3⟩:=two_named hwa;have R0:=hide n0;have S0:Hid (Smp wa (w.heap.size+1) (zcs (zfj f) 0) (zcs (zcR f) 0)):=hide n1;have BA:=hide n3;clear n0 n1 n2 n3 hwa;generalize hg:w.heap.size=g0 at *;go_loopw [9] (fun i w'=>∃k:Nat,k≤6∧i=.int .i64 k∧Smp w' (g0+1) (zcs (zfj f) k) (zcs (zcR f) k)∧w'.heap[g0]? = some (.cells #[.int .i64 0,.int .i64 0] 205 (0,0))∧Below g0 w w') (fun i _=>6-(intOf i).toNat)
 case atStart=>exact ⟨0,by decide,rfl,S0.out,R0.out,BA.out⟩
 case round=>
  clear S0 R0 BA;obtain ⟨k,hk,rfl,hs,hr,hb⟩:=hrel;have S1:=hide hs;have R1:=hide hr;have B1:=hide hb
  by_cases hlt:k<6
  ·have H1:Hid (HasF 208 wr b 288 (vrow f A P)):=hide (HH.out.next (by rw [hg];exact hb));have ch:=v_he H1.out hlt;clear hs hr hb;rcases hh:heOf f k with _|_
   ·have E1:Hid (zcs (zfj f) (k+1)=zcs (zfj f) k):=hide (by simp only [zcs,zfj,hh];simp);have E2:Hid (zcs (zcR f) (k+1)=zcs (zcR f) k):=hide (by simp only [zcs,zcR,hh];simp);rw [hh] at ch;go_wp2_with fail;exact ⟨⟨k+1,by omega,by go_num,by rw [E1.out,E2.out];exact S1.out,R1.out,B1.out⟩,by simp [intOf];omega⟩
   ·have E1:Hid (zcs (zfj f) (k+1)=zcs (zfj f) k+(valK f k-16)*glOf f k):=hide (by simp only [zcs,zfj,hh];simp);have E2:Hid (zcs (zcR f) (k+1)=zcs (zcR f) k+(valK f k-16)*grOf f k):=hide (by simp only [zcs,zcR,hh];simp);rw [hh] at ch;have KV:=hide (ztQ H1.out hlt HO.out);have v0:=zmK HO.out hlt;have gl0:0≤glOf f k∧glOf f k≤1024:=zkz _ _ _;have gr0:0≤grOf f k∧grOf f k≤1024:=zkz _ _ _;have pl:=zkA (a:=valK f k-16) (by omega) (by omega) gl0.1 gl0.2;have pr:=zkA (a:=valK f k-16) (by omega) (by omega) gr0.1 gr0.2;have sl:=zkB (g:=zfj f) k fun j hj=>zwm HO.out (by omega)
    have sr:=zkB (g:=zcR f) k fun j hj=>ztt HO.out (by omega)
    have VL:=hide (fun (u:World) (hu:HasF 208 u b 288 (vrow f A P))=>v_gl hu hlt);have VR:=hide (fun (u:World) (hu:HasF 208 u b 288 (vrow f A P))=>v_gr hu hlt);clear hh;generalize valK f k=v at *;generalize glOf f k=gl at *;generalize grOf f k=gr at *;generalize zcs (zfj f) k=L at *;generalize zcs (zcR f) k=R at *
    go_wp2_with (first
     |(go_at_call 168;refine KV.out.mono ?_;rintro e w2 ⟨rfl,b2⟩;have S2:=hide (S1.out.next b2);have R2:=hide ((b2.block g0 (lt_of_block R1.out)).trans R1.out);have B2:Hid (Below g0 w w2):=hide (B1.out.trans (b2.mono (by have:=B1.out.size;omega)));have c46:=VL.out _ (H1.out.next b2);have c47:=VR.out _ (H1.out.next b2);clear b2))
    have hd:decide ((k:Int)<6)=true:=by simp;omega
    try simp only [hd]
    go_loopw [28] (fun i w'=>∃x y:Int,((i=.int .i64 0∧x=L∧y=R)∨(i=.int .i64 1∧x=L+(v-16)*gl∧y=R)∨(i=.int .i64 2∧x=L+(v-16)*gl∧y=R+(v-16)*gr))∧Smp w' (g0+1) x y∧w'.heap[g0]? = some (.cells #[.int .i64 0,.int .i64 0] 205 (0,0))∧Below g0 w w') (fun i _=>2-(intOf i).toNat)
    case atStart=>exact ⟨L,R,.inl ⟨rfl,rfl,rfl⟩,S2.out,R2.out,B2.out⟩
    case round=>
     clear S2 R2 B2 c46 c47 KV VL VR;obtain ⟨x,y,hxy,hs,hr,hb⟩:=hrel;have S3:=hide hs;have R3:=hide hr;have B3:=hide hb;have d0:=hs.c0;have d1:=hs.c1;have z0:=hs.frozen 0;have z1:=hs.frozen 1;clear hs hr hb;rcases hxy with ⟨rfl,hx,hy⟩|⟨rfl,hx,hy⟩|⟨rfl,hx,hy⟩
     ·rw [hx] at d0 S3;rw [hy] at d1 S3;clear hx hy;have i0:=zxw gl gr;have i1:=zxx gl gr;go_wp2_with fail;exact ⟨⟨L+(v-16)*gl,R,.inr (.inl ⟨rfl,rfl,rfl⟩),S3.out.set0 _,(heap_setCell_other _ _ _ _ (by simp)).trans R3.out,zeM B3.out (Nat.le_succ _) _ _⟩,by simp [intOf]⟩
     ·rw [hx] at d0 S3;rw [hy] at d1 S3;clear hx hy;have i0:=zxw gl gr;have i1:=zxx gl gr;go_wp2_with fail;exact ⟨⟨L+(v-16)*gl,R+(v-16)*gr,.inr (.inr ⟨rfl,rfl,rfl⟩),S3.out.set1 _,(heap_setCell_other _ _ _ _ (by simp)).trans R3.out,zeM B3.out (Nat.le_succ _) _ _⟩,by simp [intOf]⟩
     ·rw [hx] at d0 S3;rw [hy] at d1 S3;clear hx hy;go_wp2_with fail;exact ⟨⟨k+1,by omega,by go_num,by rw [E1.out,E2.out];exact S3.out,R3.out,B3.out⟩,by simp [intOf];omega⟩
  ·obtain rfl:k=6:=by omega
   have E1:Hid (zju f=zcs (zfj f) 6∧zgU f=zcs (zcR f) 6):=hide ⟨rfl,rfl⟩;clear hs hr hb;generalize zcs (zfj f) 6=L at *;generalize zcs (zcR f) 6=R at *
   go_wp2_with (first
    |(refine wpList_load_row rfl 205 (.tmp 3) rfl (g0+1) rfl _ _ _ _ S1.out Tryz.underlying205 rfl (by kernel_rfl) ?_)
    |(refine wpList_store_row rfl 205 (.tmp 2) (.tmp 42) rfl g0 _ rfl rfl 205 _ R1.out (by kernel_rfl) rfl (by kernel_rfl) ?_))
   refine bodyPost_ret (results_cell_row rfl _ _ g0 205 _ (0,0) _ rfl (setRow_heap _ _ _ _ _ _ R1.out) Tryz.underlying205 rfl (by kernel_rfl)) rfl ?_;subst hg;exact ⟨by rw [E1.out.1,E1.out.2],below_setRow B1.out (Nat.le_refl _) _⟩
def zem (f:Nat→Int):Nat→Nat→Int
 |0=>f
 |k+1=>if k=1 then zem f k else onK (zem f k) k
theorem zoj (f:Nat→Int):zfD f=zem (onK f 1) 6:=by simp [zfD,zem]
theorem zlV {T:TypeId} {N:Nat} {c:Nat→Value} (h:HasF T w b N c):HasF T w.drew b N c:=h
theorem ziJ (h:okP f):∀k,k≤6→okP (zem f k)
 |0,_=>h
 |k+1,hk=>by
  have ih:=ziJ h k (by omega);unfold zem;split
  ·exact ih
  ·exact zeK ih (by omega)
theorem zjz (f:Nat→Int):∀k,Alike f (zem f k)
 |0=>Alike.refl f
 |k+1=>by
  have ih:=zjz f k;unfold zem;split
  ·exact ih
  ·exact ih.trans (zdC _ _ _)
def Pers (f P:Nat→Int):Prop:=∀k,k<6→(k=0∧zbS f≠0)∨P k=perK f k
theorem Pers.alike {g:Nat→Int} (h:Pers f P) (a:Alike f g):Pers g P:=fun k hk=>by
 by_cases e:k=0∧zbS f≠0
 ·exact .inl ⟨e.1,by rw [a.lfo];exact e.2⟩
 ·rcases h k hk with h|h
  ·exact absurd h e
  ·exact .inr (by rw [h,a.per k e])
theorem ztR (h:zbS f≠0):perK f 0=6*orL (frq f) 4096:=by
 unfold perK;rw [if_neg (by unfold nyOf;simp),if_pos ⟨rfl,h⟩]
def zmQ (f P:Nat→Int):Prop:=∀k,k<6→k≠1→P k=perK (zem f k) k
theorem zjA (h:Pers f P) (h0:P 0=perK f 0):zmQ f P:=fun k hk _=>by
 by_cases e:k=0
 ·subst e;exact h0
 ·rcases h k hk with h|h
  ·exact absurd h.1 e
  ·rw [h,(zjz f k).per k fun c=>e c.1]
theorem zwA (h:HasF 208 w b 288 (vrow f A P)) (ok:okP f) (hP:Pers f P):Calls Tryz.prog 99 #[.pointer (some ⟨b,0,none⟩),.int .i64 (zbS f)] w fun e w'=>e=Ending.returned (.tuple #[])∧∃P',HasF 208 w' b 288 (vrow (zfD f) A P')∧Pers (zfD f) P'∧But b w w':=by
 have p1:P 1=perK f 1:=by
  rcases hP 1 (by decide) with h|h
  ·exact absurd h.1 (by decide)
  ·exact h
 have pk:=zky ok (k:=1) (by decide);rw [←p1] at pk;have KV:=hide (zkM h (k:=1) (by decide) ok pk.1 (by omega));rw [p1] at KV;have OK1:Hid (okP (onK f 1)):=hide (zeK ok (by decide));have al:Alike f (onK f 1):=zdC f 1 _;have E1:onP f 1 (perK f 1)=onK f 1:=rfl;rw [E1] at KV;rw [show (1:Nat)*48=48 from rfl] at KV
 by_cases h0:zbS f=0
 ·have AP:Hid (zmQ (onK f 1) P):=hide (zjA (hP.alike al) (by
   rcases hP.alike al 0 (by decide) with c|c
   ·exact absurd h0 (by rw [←al.lfo];exact c.2)
   ·exact c))
  have PS:Hid (Pers (zfD f) P):=hide (hP.alike (zgV f));rw [h0];clear h hP p1 pk ok al E1 h0;go_enter Tryz.func99,Tryz.ntmps99;go_wp2_with (go_at_call 166;refine KV.out.mono ?_;rintro e w1 ⟨rfl,h1,b1⟩;have H1:=hide h1;have B1:=hide b1;clear h1 b1 KV);go_loopw [21] (fun i w'=>∃k:Nat,k≤6∧i=.int .i64 k∧HasF 208 w' b 288 (vrow (zem (onK f 1) k) A P)∧But b w w') (fun i _=>6-(intOf i).toNat)
  case atStart=>exact ⟨0,by decide,rfl,H1.out,B1.out⟩
  case round=>
   clear H1 B1;obtain ⟨k,hk,rfl,h2,b2⟩:=hrel;have H2:=hide h2;have B2:=hide b2;clear h2 b2
   by_cases hlt:k<6
   ·by_cases e1:k=1
    ·subst e1;have E:Hid (zem (onK f 1) (1+1)=zem (onK f 1) 1):=hide rfl;go_wp2_with fail;exact ⟨⟨2,by decide,rfl,by rw [E.out];exact H2.out,B2.out⟩,by simp [intOf]⟩
    ·have E:Hid (zem (onK f 1) (k+1)=onP (zem (onK f 1) k) k (P k)):=hide (by rw [AP.out k hlt e1];show (if k=1 then _ else _)=_;rw [if_neg e1];rfl);have pk:=zky (ziJ OK1.out k (by omega)) hlt;rw [←AP.out k hlt e1] at pk;have KG:=hide (zkM H2.out hlt (ziJ OK1.out k (by omega)) pk.1 (by omega));rw [←E.out] at KG;clear pk;go_wp2_with (go_at_call 166;refine KG.out.mono ?_;rintro e w3 ⟨rfl,h3,b3⟩;have H3:=hide h3;have B3:=hide (B2.out.trans b3);clear h3 b3);exact ⟨⟨k+1,by omega,by go_num,H3.out,B3.out⟩,by simp [intOf];omega⟩
   ·obtain rfl:k=6:=by omega
    go_wp2_with fail;go_end0;exact ⟨rfl,P,by rw [zoj];exact H2.out,PS.out,B2.out⟩
 ·have h1:zbS (onK f 1)≠0:=by rw [al.lfo];exact h0
  obtain ⟨P1,hP1⟩:∃P1,upN P 0 (6*orL (frq (onK f 1)) 4096)=P1:=⟨_,rfl⟩
  have a1:P1 0=perK (onK f 1) 0:=by rw [←hP1,ztR h1];rfl
  have a2:Pers f P1:=fun k hk=>by
   by_cases e:k=0
   ·exact .inl ⟨e,h0⟩
   ·rcases hP k hk with c|c
    ·exact absurd c.1 e
    ·exact .inr (by rw [←hP1,←c];unfold upN;rw [if_neg e])
  have AP:Hid (zmQ (onK f 1) P1):=hide (zjA (a2.alike al) a1);have PS:Hid (Pers (zfD f) P1):=hide (a2.alike (zgV f));have KS:=hide (fun (u:World) (hu:HasF 208 u b 288 (vrow (onK f 1) A P))=>zqi hu OK1.out h1);rw [al.lfo] at KS;have hl:=zkx ok;have hq:0<orL (frq (onK f 1)) 4096∧orL (frq (onK f 1)) 4096≤4096:=zhj (by unfold frq;omega);have KO:=hide (fun u=>zel (frq (onK f 1)) 4096 u)
  have KE:Hid (∀u:World,HasF 208 u b 288 (vrow (onK f 1) A P)→HasF 208 (u.setCell ⟨b,1,none⟩ (.int .i64 (6*orL (frq (onK f 1)) 4096))) b 288 (vrow (onK f 1) A P1)):=hide (fun u hu=>by
   rw [←hP1]
   exact (hu.set 1 _).ext (zmL _ A P 0 _))
  have KC:Hid (∀u:World,HasF 208 u b 288 (vrow (onK f 1) A P)→u.cell? ⟨b,1,none⟩=some (.int .i64 (P 0))∧u.frozen? ⟨b,1,none⟩=false):=hide (fun u hu=>⟨zCR hu (k:=0) (by decide),hu.frozen _⟩);have w6:IntKind.i64.wrap (6*orL (frq (onK f 1)) 4096)=6*orL (frq (onK f 1)) 4096:=zbE _ (by omega) (by omega);clear h hP p1 pk ok al E1 h1 hP1 a1 a2;generalize zbS f=m at *;generalize orL (frq (onK f 1)) 4096=q at *;generalize frq (onK f 1)=fq at *;go_enter Tryz.func99,Tryz.ntmps99;go_wp2_with (go_at_call 166;refine KV.out.mono ?_;rintro e w1 ⟨rfl,h1,b1⟩;have H1:=hide h1;have B1:=hide b1;clear h1 b1 KV)
  go_region_with (first
   |(go_at_call 167;refine (KS.out _ (zlV H1.out)).mono ?_;rintro e w2 ⟨rfl,b2⟩;have H2:=hide ((zlV H1.out).next b2);have B2:=hide (B1.out.drew.andBelow b2);obtain ⟨g1,g2⟩:=KC.out _ H2.out;clear b2)
   |(go_at_call 165;refine (KO.out _).mono ?_;rintro e w3 ⟨rfl,hw⟩;subst w3))
  have H3:=hide (KE.out _ H2.out);have B3:=hide (B2.out.set 1 (.int .i64 (6*q)));clear H1 B1 H2 B2 g1 g2 KE KC KS KO;refine zjb fun w4 hw4=>?_
  rw [←hw4] at H3 B3;clear hw4;go_wp2_with fail;have H1:=H3;have B1:=B3;clear H3 B3;go_loopw [21] (fun i w'=>∃k:Nat,k≤6∧i=.int .i64 k∧HasF 208 w' b 288 (vrow (zem (onK f 1) k) A P1)∧But b w w') (fun i _=>6-(intOf i).toNat)
  case atStart=>exact ⟨0,by decide,rfl,H1.out,B1.out⟩
  case round=>
   clear H1 B1;obtain ⟨k,hk,rfl,h2,b2⟩:=hrel;have H2:=hide h2;have B2:=hide b2;clear h2 b2
   by_cases hlt:k<6
   ·by_cases e1:k=1
    ·subst e1;have E:Hid (zem (onK f 1) (1+1)=zem (onK f 1) 1):=hide rfl;go_wp2_with fail;exact ⟨⟨2,by decide,rfl,by rw [E.out];exact H2.out,B2.out⟩,by simp [intOf]⟩
    ·have E:Hid (zem (onK f 1) (k+1)=onP (zem (onK f 1) k) k (P1 k)):=hide (by rw [AP.out k hlt e1];show (if k=1 then _ else _)=_;rw [if_neg e1];rfl);have pk:=zky (ziJ OK1.out k (by omega)) hlt;rw [←AP.out k hlt e1] at pk;have KG:=hide (zkM H2.out hlt (ziJ OK1.out k (by omega)) pk.1 (by omega));rw [←E.out] at KG;clear pk;go_wp2_with (go_at_call 166;refine KG.out.mono ?_;rintro e w3 ⟨rfl,h3,b3⟩;have H3:=hide h3;have B3:=hide (B2.out.trans b3);clear h3 b3);exact ⟨⟨k+1,by omega,by go_num,H3.out,B3.out⟩,by simp [intOf];omega⟩
   ·obtain rfl:k=6:=by omega
    go_wp2_with fail;go_end0;exact ⟨rfl,P1,by rw [zoj];exact H2.out,PS.out,B2.out⟩
theorem ztS (h:HasF 49 w b 244 (iv f)) (ok:okP f):Calls Tryz.prog 98 #[.pointer (some ⟨b,0,none⟩)] w fun e w'=>e=Ending.returned (.int .i64 (zbS f))∧w'=w:=by
 have c:=h.int 3 (by decide);have hb:=ok.2.2.2.1;have K:=hide (fun w=>zxW hb.1 hb.2 w);have m:=zxC (f 3)
 by_cases h1:128≤f 3
 ·have HQ:Hid (zbS f=0):=hide (by unfold zbS;rw [if_pos h1]);have hd:decide (128≤f 3)=true:=by simp [h1]
  rw [hd] at K;clear hd ok h;generalize f 3=x at *;go_enter Tryz.func98,Tryz.ntmps98;go_wp2_with (go_at_call 162;refine (K.out _).mono ?_;rintro e w' ⟨rfl,hw⟩;subst w');go_ret;exact ⟨zat HQ.out.symm,rfl⟩
 ·have HQ:Hid (zbS f=f 3%4):=hide (by unfold zbS;rw [if_neg h1]);have hd:decide (128≤f 3)=false:=by simp;omega
  rw [hd] at K;clear hd ok h;generalize f 3=x at *;go_enter Tryz.func98,Tryz.ntmps98;go_wp2_with (go_at_call 162;refine (K.out _).mono ?_;rintro e w' ⟨rfl,hw⟩;subst w');go_ret;exact ⟨zat HQ.out.symm,rfl⟩
theorem zhm {x:Nat→Int} (h:HasF 46 w b 40 (iv x)) (x0:0≤x 0) (x1:x 0≤4095) (q:Bool):Calls Tryz.prog 163 #[.pointer (some ⟨b,0,none⟩),.bool q] w fun e w'=>e=Ending.returned (.int .i64 (if q=true then 6*zhr (x 3) else 6*orL (x 0) 4096))∧w'=w:=by
 have c0:=h.int 0 (by decide);have c3:=h.int 3 (by decide);have p:=znZ (x 3);have o:=zhj (n:=x 0) (l:=4096) (by omega);have K1:=hide (fun w=>zpZ (x 3) w);have K2:=hide (fun w=>zel (x 0) 4096 w);generalize orL (x 0) 4096=ol at *;generalize zhr (x 3)=pe at *;clear h;cases q
 ·go_enter Tryz.func163,Tryz.ntmps163
  go_wp2_with (first
   |(go_at_call 165;refine (K2.out _).mono ?_;rintro e w' ⟨rfl,hw⟩;subst w'))
  go_ret;exact ⟨rfl,rfl⟩
 ·go_enter Tryz.func163,Tryz.ntmps163
  go_wp2_with (first
   |(go_at_call 218;refine (K1.out _).mono ?_;rintro e w' ⟨rfl,hw⟩;subst w'))
  go_ret;exact ⟨rfl,rfl⟩
theorem zjB {x:Nat→Int} (h:HasF 46 w b 40 (iv x)) (hL:HasLevels w) (m:Int) (b0:0≤x 2) (b1:x 2≤255) (m0:0≤m) (m1:m≤255):Calls Tryz.prog 164 #[.pointer (some ⟨b,0,none⟩),.int .i64 m] w fun e w'=>e=Ending.returned (.agg #[.int .i64 (zft (x 1) (x 2/16) (m/16)),.int .i64 (zft (x 1) (x 2%16) (m%16))])∧Below w.heap.size w w':=by
 have c1:=h.int 1 (by decide);have c2:=h.int 2 (by decide);have a1:=zcX (x 2);have a2:=zcX m;have HL:=hide hL;have HB:=hide h.lt;clear h hL;generalize x 1=v at *;generalize x 2=y at *;go_enter Tryz.func164,Tryz.ntmps164;go_wp2_with fail;refine under_name fun wa hwa=>?_
 have d1:wa.cell? ⟨b,1,none⟩=some (.int .i64 v):=by rw [hwa];exact ((((Below.refl _ w).alloc (Nat.le_refl _) _)).cell (p:=⟨b,1,none⟩) HB.out).trans c1
 have d2:wa.cell? ⟨b,2,none⟩=some (.int .i64 y):=by rw [hwa];exact ((((Below.refl _ w).alloc (Nat.le_refl _) _)).cell (p:=⟨b,2,none⟩) HB.out).trans c2
 have R0:Hid (wa.heap[w.heap.size]? = some (.cells #[.int .i64 0,.int .i64 0] 205 (0,0))):=hide (by rw [hwa];exact heap_alloc_new _ _);have B0:Hid (Below w.heap.size w wa):=hide (by rw [hwa];exact (Below.refl _ w).alloc (Nat.le_refl _) _);have sb:b<wa.heap.size:=Nat.lt_of_lt_of_le HB.out B0.out.size;clear hwa c1 c2;have k1:=zah d1 sb;have k2:=zah d2 sb;have KG:Hid (∀(z:Kept wa) (p q r:Int),Calls Tryz.prog 219 #[.int .i64 p,.int .i64 q,.int .i64 r] z.val fun e w'=>e=Ending.returned (.int .i64 (zft p q r))∧w'=z.val):=hide (fun z p q r=>zwj p q r _ ((HL.out.next B0.out).next z.below));haveI:=zax wa;refine zaR _ _ (show _=[_,_,_,_,_,_,_,_,_,_,_,_,_,_,_,_,_,_,_,_,_,_,_,_,_]++[_] from rfl) (by kernel_rfl) (by kernel_rfl) (by kernel_rfl) ?_
 repeat (go_big_quiet_step ((first
  |(go_at_call 219;exact zaF (KG.out _ _ _ _)))))
 refine wpQuiet_nil ?_;rintro _ ⟨wk,rfl⟩;have R3:=hide ((wk.block w.heap.size (lt_of_block R0.out)).trans R0.out);have B3:=hide (zaz B0.out wk.below);clear KG k1 k2 R0 B0 d1 d2
 go_wp2_with (first
  |(refine wpList_store_row rfl 205 (.tmp 4) (.tmp 29) rfl w.heap.size _ rfl rfl 205 _ R3.out (by kernel_rfl) rfl (by kernel_rfl) ?_))
 (try simp only [Exit.inBlock,Exit.then])
 refine bodyPost_ret (results_cell_row rfl _ _ w.heap.size 205 _ (0,0) _ rfl (setRow_heap _ _ _ _ _ _ R3.out) Tryz.underlying205 rfl (by kernel_rfl)) rfl ?_;exact ⟨rfl,below_setRow B3.out (Nat.le_refl _) _⟩
def accs (f:Nat→Int):Nat→Int:=fun k=>ch f k 37
def per0 (f:Nat→Int):Nat→Int:=fun k=>if nyOf f k=true then 6*zhr (ch f k 3) else 6*orL (ch f k 0) 4096
def vFst (f:Nat→Int) (k j:Nat):Value:=if j=45 then .bool (soOf f k) else vAt f (accs f) (per0 f) k j
theorem zhI (f:Nat→Int) (k j:Nat):(vFst f k j).oneCell'=true:=by
 unfold vFst;split
 ·rfl
 ·exact zkC _ _ _ _ _
def zV (i:Nat):Value:=if 42≤i%48∧i%48<46 then .bool false else .int .i64 0
def zgZ (f:Nat→Int) (n:Nat):Nat→Value:=fun i=>if i/48<n then vFst f (i/48) (i%48) else zV i
theorem zero_V (w:World):(zeroValue 208).run Tryz.prog w=.ok (.agg (rowF zV 288)) w:=by kernel_rfl
theorem info_V (c:Nat→Value):(Tryz.prog.info? 208).map (·.size)=some (rowF c 288).size:=by
 rw [zai]
 kernel_rfl
theorem zkN:(Tryz.prog.info? 207).map (·.size)=some 48:=by kernel_rfl
theorem zwB:(Tryz.prog.info? 47).map (·.size)=some 240:=by kernel_rfl
theorem zff (f:Nat→Int) (k:Nat):∀j,j<288→(if k*48≤j∧j<k*48+48 then vFst f k (j-k*48) else zgZ f k j)=zgZ f (k+1) j:=fun j hj=>by
 unfold zgZ
 by_cases h:k*48≤j∧j<k*48+48
 ·rw [if_pos h,if_pos (by omega),show j/48=k by omega,show j%48=j-k*48 by omega]
 ·rw [if_neg h]
  by_cases h2:j/48<k
  ·rw [if_pos h2,if_pos (by omega)]
  ·rw [if_neg h2,if_neg (by omega)]
theorem ziK (f:Nat→Int) (k:Nat) (w:World):(Instr.build 207 #[(0,.agg #[.int .i64 (ch f k 37),.int .i64 (per0 f k)]),(1,.agg (rowF (iv (ch f k)) 40)),(2,.bool (nyOf f k)),(3,.bool (drOf f k)),(4,.bool (soOf f k&&!drOf f k)),(5,.bool (soOf f k)),(6,.agg #[.int .i64 (glOf f k),.int .i64 (grOf f k)])]).run Tryz.prog w=.ok (.agg (rowF (vFst f k) 48)) w:=run_build w _ _ _ (by kernel_rfl)
theorem zjC (f:Nat→Int) (k:Nat) (hk:k<6) (w:World):(Instr.index 47 (.agg (rowF (iv fun j=>f (4+j)) 240)) (.int .i64 (k:Int))).run Tryz.prog w=.ok (.agg (rowF (iv (ch f k)) 40)) w:=by
 have e:=zul (t:=46) Tryz.underlying46 rfl zgF (iv fun j=>f (4+j)) 240 (k*40) (by omega) w;have z:=zqI zgF w;have x:rowF (fun j=>iv (fun j=>f (4+j)) (k*40+j)) 40=rowF (iv (ch f k)) 40:=zbh fun j hj=>by
  show Value.int .i64 (f (4+(k*40+j)))=.int .i64 (f (4+k*40+j));rw [Nat.add_assoc]
 rw [x] at e;have h0:(0:Int)≤k∧(k:Int)<((6:Nat):Int):=by omega
 have h1:(k:Int)<6:=by omega
 generalize rowF (iv fun j=>f (4+j)) 240=cs at e ⊢;simp only [Instr.index,asIntOf];simp only [run_underlying Tryz.underlying47,Sem.run_bind,Result.andThen];simp [h0,h1,z,e,Result.andThen]
def voR (g5 b g3:Nat) (f:Nat→Int) (k:Nat) (xa p mn gl gr:Int) (ny dr on:Bool) (V:Array Value):Nat→Value→World→Prop
 |0,v,_=>v=.int .i64 (k:Int)
 |1,v,_=>v=.pointer (some ⟨g5,37,none⟩)
 |2,v,_=>v=.int .i64 xa
 |3,v,_=>v=.bool ny
 |4,v,_=>v=.int .i64 p
 |5,v,_=>v=.agg #[.int .i64 xa,.int .i64 p]
 |6,v,_=>v=.agg (rowF (iv (ch f k)) 40)
 |7,v,_=>v=.bool ny
 |8,v,_=>v=.bool dr
 |9,v,_=>v=.bool on
 |10,v,_=>v=.bool on
 |11,v,_=>on=true→v=.bool dr
 |12,v,_=>on=true→v=.bool (!dr)
 |13,v,_=>v=.bool (on&&!dr)
 |14,v,_=>v=.bool on
 |15,v,_=>v=.pointer (some ⟨b,0,none⟩)
 |16,v,_=>v=.pointer (some ⟨b,0,none⟩)
 |17,v,_=>v=.pointer (some ⟨b,1,none⟩)
 |18,v,_=>v=.int .i64 mn
 |19,v,_=>v=.agg #[.int .i64 gl,.int .i64 gr]
 |20,v,_=>v=.agg V
 |21,v,_=>v=.pointer (some ⟨g3,k*48,none⟩)
 |_,_,_=>True
theorem zhJ {g5 g3:Nat} {xa p mn gl gr:Int} {ny dr on:Bool} {V:Array Value}:∀i v w w',voR g5 b g3 f k xa p mn gl gr ny dr on V i v w→Below w.heap.size w w'→voR g5 b g3 f k xa p mn gl gr ny dr on V i v w':=by
 intro i v w w' h _
 match i,h with
 |0,h=>exact h
 |1,h=>exact h
 |2,h=>exact h
 |3,h=>exact h
 |4,h=>exact h
 |5,h=>exact h
 |6,h=>exact h
 |7,h=>exact h
 |8,h=>exact h
 |9,h=>exact h
 |10,h=>exact h
 |11,h=>exact h
 |12,h=>exact h
 |13,h=>exact h
 |14,h=>exact h
 |15,h=>exact h
 |16,h=>exact h
 |17,h=>exact h
 |18,h=>exact h
 |19,h=>exact h
 |20,h=>exact h
 |21,h=>exact h
 |_+22,h=>trivial
theorem zkO (f:Nat→Int) (k j:Nat) (hk:k<6) (hj:j<48):zgZ f 6 (k*48+j)=vFst f k j:=by
 unfold zgZ;rw [show (k*48+j)/48=k by omega,show (k*48+j)%48=j by omega,if_pos hk]
theorem zCS (h:zbS f=0):∀i,i<288→zgZ f 6 i=vrow f (accs f) (per0 f) i:=zfc fun k j hk hj=>by
 rw [zkO f k j hk hj];unfold vFst
 by_cases e:j=45
 ·subst e;rw [if_pos rfl];show _=Value.bool (heOf f k);unfold heOf;rw [h];simp
 ·rw [if_neg e]
theorem zCT (h:zbS f≠0) (v:Int):∀i,i<288→updC (updC (zgZ f 6) 49 (.int .i64 v)) 93 (.bool false) i=vrow f (accs f) (upN (per0 f) 1 v) i:=zfc fun k j hk hj=>by
 rw [zgW _ _ _ 1 45 k j rfl (by decide) hj,zgW _ _ _ 1 1 k j rfl (by decide) hj,zkO f k j hk hj]
 by_cases e:k=1∧j=45
 ·obtain ⟨rfl,rfl⟩:=e;rw [if_pos ⟨rfl,rfl⟩];show _=Value.bool (heOf f 1);unfold heOf;simp [h]
 ·rw [if_neg e]
  by_cases e2:k=1∧j=1
  ·obtain ⟨rfl,rfl⟩:=e2;rw [if_pos ⟨rfl,rfl⟩];rfl
  ·rw [if_neg e2];unfold vFst
   by_cases e3:j=45
   ·subst e3;rw [if_pos rfl];show _=Value.bool (heOf f k);unfold heOf;simp [show ¬k=1 from fun c=>e ⟨c,rfl⟩]
   ·rw [if_neg e3];unfold vAt upN
    by_cases e4:j=1
    ·subst e4;simp [show ¬k=1 from fun c=>e2 ⟨c,rfl⟩]
    ·rw [if_neg (c:=j=1) e4,if_neg (c:=j=1) e4]
theorem zCU (h:zbS f=0):Pers f (per0 f):=fun k hk=>.inr (by
 unfold per0 perK
 rw [if_neg (c:=k=0∧zbS f≠0) (by simp [h]),if_neg (c:=k=1∧zbS f≠0) (by simp [h])])
theorem zxy (f:Nat→Int):per0 f 1=6*orL (ch f 1 0) 4096:=by
 unfold per0 nyOf;simp
theorem zCV (h:zbS f≠0):Pers f (upN (per0 f) 1 (per0 f 1*orL (f 2) 256)):=fun k hk=>by
 by_cases e:k=0
 ·exact .inl ⟨e,h⟩
 ·refine .inr ?_;unfold upN
  by_cases e1:k=1
  ·subst e1;rw [if_pos rfl,zxy];unfold perK nyOf;simp [h]
  ·rw [if_neg e1];unfold per0 perK;rw [if_neg (c:=k=0∧zbS f≠0) (by simp [e]),if_neg (c:=k=1∧zbS f≠0) (by simp [e1])]
theorem zgv {a b:World} (h:Below B w a) (hB:B≤w.heap.size) (k:Below a.heap.size a b):Below B w b:=h.trans (k.mono (Nat.le_trans hB h.size))
theorem zqj {f : Nat → Int} (h : HasF 49 w b 244 (iv f)) (hL : HasLevels w) (ok : okP f) : Calls Tryz.prog 97 #[.pointer (some ⟨b, 0, none⟩)] w fun e w' => ∃ P, Pers f P ∧ e = Ending.returned (.agg (rowF (vrow f (accs f) P) 288)) ∧ Below w.heap.size w w' := by
  have HL := hide hL
  have HH := hide h
  have OK := hide ok
  have NP0 := hide h.lt
  clear h hL ok
  go_enter Tryz.func97, Tryz.ntmps97
  go_wp2_with (first
    | (refine zav rfl 208 rfl (rowF zV 288) zero_V ?_)
    | (refine zaj fun wa hwa => ?_; obtain ⟨n0, n1, n2, n3⟩ := two_named hwa; have R0 : Hid (HasF 208 wa w.heap.size 288 zV) := hide n0; have H0 : Hid (HasF 208 wa (w.heap.size + 1) 288 (zgZ f 0)) := hide (HasF.ext (T := 208) (c := zV) n1 fun j _ => rfl); have B0 := hide n3; have P0 := hide (HH.out.next n3); clear n0 n1 n2 n3 hwa; refine zcK rfl 47 (.tmp 11) rfl b 4 rfl P0.out 240 (by decide) _ Tryz.underlying47 rfl zwB ?_))
  obtain ⟨s0, hs0⟩ : ∃ s, w.heap.size = s := ⟨_, rfl⟩
  rw [hs0] at R0 H0 B0 NP0 ⊢
  obtain ⟨g3, hg3⟩ : ∃ g, s0 + 1 = g := ⟨_, rfl⟩
  rw [hg3] at H0 ⊢
  have S0 : Hid (s0 ≤ w.heap.size) := hide (by omega)
  have LE : Hid (s0 ≤ g3) := hide (by omega)
  have NE : Hid (s0 ≠ g3) := hide (by omega)
  have NP : Hid (b ≠ g3) := hide (by have := NP0.out; omega)
  clear hg3 HH
  go_loopw [13] (fun i w' => ∃ k : Nat, k ≤ 6 ∧ i = .int .i64 k ∧ HasF 208 w' g3 288 (zgZ f k) ∧ HasF 208 w' s0 288 zV ∧ HasF 49 w' b 244 (iv f) ∧ Below s0 w w') (fun i _ => 6 - (intOf i).toNat)
  case atStart => exact ⟨0, by decide, rfl, H0.out, R0.out, P0.out, B0.out⟩
  case round =>
    clear H0 R0 P0 B0
    obtain ⟨k, hk, rfl, h1, r1, p1, b1⟩ := hrel
    have H1 := hide h1
    have R1 := hide r1
    have P1 := hide p1
    have B1 := hide b1
    clear h1 r1 p1 b1
    by_cases hlt : k < 6
    · obtain ⟨x0, x1, x2, x3, x4, x5, x6, x7, x8⟩ := OK.out.chan hlt
      have m1 := OK.out.2.1
      have e7 : (zaV (ch f k 1) 7 == 1) = soOf f k := zAv x1.1 x1.2
      have e6 : (zaV (ch f k 1) 6 == 1) = drOf f k := zAw x1.1 x1.2
      have S3 := hide (fun w => zxW x3.1 x3.2 w)
      clear x1 x3 x4 x5 x6 x7 x8
      by_cases h4 : 4 ≤ k
      ·
        have HN : Hid (nyOf f k = decide (128 ≤ ch f k 3)) := hide (by unfold nyOf; simp [h4])
        obtain ⟨ny, hny⟩ : ∃ q, decide (128 ≤ ch f k 3) = q := ⟨_, rfl⟩
        rw [hny] at HN S3
        clear hny
        have ci := zjC f k hlt
        have CR := hide (zby (ch f k) 40)
        go_wp2_with (first
          | (refine zav rfl 46 rfl (rowF (iv fun _ => 0) 40) zno ?_)
          | (refine wpList_store_row rfl 46 (.tmp 5) (.tmp 16) rfl wr.heap.size (rowF (iv (ch f k)) 40) (by simp [Act.eval]) rfl 46 _ (zbo _ _ _ _) (zfn _) (by rw [zai, zai]) (zby _ _) ?_; refine zaj fun w2 hw2 => ?_; have C2 : Hid (HasF 46 w2 wr.heap.size 40 (iv (ch f k))) := hide (by rw [hw2]; exact setRow_heap _ _ _ _ _ _ (zbo _ _ _ _)); have W2 : Hid (Below wr.heap.size wr w2) := hide (by rw [hw2]; exact below_setRow ((Below.refl _ _).alloc (Nat.le_refl _) _) (Nat.le_refl _) _); have c3 := C2.out.int 3 (by decide); clear hw2)
          | (go_at_call 162; refine (S3.out _).mono ?_; rintro e w' ⟨rfl, hw⟩; subst w'))
        obtain ⟨g5, hg5⟩ : ∃ g, wr.heap.size = g := ⟨_, rfl⟩
        rw [hg5] at C2 ⊢
        have c1 := C2.out.int 1 (by decide)
        have k1 := zah c1 C2.out.lt
        haveI := zax w2
        refine zbn (by kernel_rfl) (by kernel_rfl) ?_
        repeat (go_big_quiet_step ((first
          | (go_at_call 162; exact zaF (zfR _ _ _)))))
        refine wpQuiet_nil ?_
        rintro _ ⟨wk, rfl⟩
        have HC := hide (C2.out.next wk.below)
        have W4 := hide (zaz W2.out wk.below)
        have H4 := hide (H1.out.next W4.out)
        have R4 := hide (R1.out.next W4.out)
        have HP := hide (P1.out.next W4.out)
        have B4 := hide (zgv B1.out S0.out W4.out)
        clear C2 W2 k1 c1 c3 H1 R1 P1 B1 W4 hg5
        generalize wk.val = w4 at *
        simp only [e7, e6]
        go_wp2_with fail
        have KB := hide (ziK f k)
        have KP : Hid (∀ u, Below w4.heap.size w4 u → Calls Tryz.prog 163 #[.pointer (some ⟨g5, 0, none⟩), .bool (nyOf f k)] u fun e w' => e = Ending.returned (.int .i64 (per0 f k)) ∧ w' = u) := hide (fun u hb => zhm (HC.out.next hb) x0.1 x0.2 (nyOf f k))
        have KG : Hid (∀ u, Below w4.heap.size w4 u → Calls Tryz.prog 164 #[.pointer (some ⟨g5, 0, none⟩), .int .i64 (f 1)] u fun e w' => e = Ending.returned (.agg #[.int .i64 (glOf f k), .int .i64 (grOf f k)]) ∧ Below u.heap.size u w') := hide (fun u hb => zjB (HC.out.next hb) ((HL.out.next (by rw [hs0]; exact B4.out)).next hb) (f 1) x2.1 x2.2 m1.1 m1.2)
        obtain ⟨xa, XA⟩ : ∃ x, ch f k 37 = x := ⟨_, rfl⟩
        obtain ⟨mn, MN⟩ : ∃ x, f 1 = x := ⟨_, rfl⟩
        obtain ⟨V, VV⟩ : ∃ V, Value.agg V = .agg (rowF (vFst f k) 48) := ⟨_, rfl⟩
        rw [XA, ← VV] at KB
        rw [MN] at KG
        rw [HN.out] at KB KP
        replace XA := hide XA
        replace MN := hide MN
        replace VV := hide VV
        clear x0 x2 m1 ci S3 e6 e7 CR
        generalize per0 f k = p at *
        generalize glOf f k = gl at *
        generalize grOf f k = gr at *
        rcases hon : soOf f k with _ | _
        ·
          rw [hon] at KB
          clear hon
          generalize drOf f k = dr at *
          refine zbq [_, _, _, _, _, _, _, _, _, _, _, _, _, _, _, _, _, _, _, _, _, _] _ rfl (voR g5 b g3 f k xa p mn gl gr ny dr false V) _ (fun vals => by simp only [zaA, Act.put, List.setIfInBounds_toArray, List.set_cons_succ, List.set_cons_zero, Nat.reduceAdd]; rfl) (by kernel_rfl) (by kernel_rfl) (by kernel_rfl) (by kernel_rfl) zhJ ?_ ?_
          · refine (zab (fun vals u hb hf => ?_) (zab (fun vals u hb hf => ?_) (zab (fun vals u hb hf => ?_) (zab (fun vals u hb hf => ?_) (zab (fun vals u hb hf => ?_) (zab (fun vals u hb hf => ?_) (zab (fun vals u hb hf => ?_) (zab (fun vals u hb hf => ?_) (zab (fun vals u hb hf => ?_) (zab (fun vals u hb hf => ?_) (zab (fun vals u hb hf => ?_) (zab (fun vals u hb hf => ?_) (zab (fun vals u hb hf => ?_) (zab (fun vals u hb hf => ?_) (zab (fun vals u hb hf => ?_) (zab (fun vals u hb hf => ?_) (zab (fun vals u hb hf => ?_) (zab (fun vals u hb hf => ?_) (zab (fun vals u hb hf => ?_) (zab (fun vals u hb hf => ?_) (zab (fun vals u hb hf => ?_) (zab (fun vals u hb hf => ?_) zcb))))))))))))))))))))))
            · go_wp2_with fail
              exact zaa _ rfl rfl (Below.refl _ _)
            · go_wp2_with fail
              exact zaa _ rfl rfl (Below.refl _ _)
            · obtain ⟨(h1 : vals 1 = .pointer (some ⟨g5, 37, none⟩)), _⟩ := hf
              simp only [h1]
              clear h1
              have ca := (HC.out.next hb).int 37 (by decide)
              rw [XA.out] at ca
              go_wp2_with fail
              exact zaa _ rfl rfl (Below.refl _ _)
            · go_wp2_with fail
              exact zaa _ rfl rfl (Below.refl _ _)
            · obtain ⟨(h3 : vals 3 = .bool ny), _⟩ := hf
              simp only [h3]
              clear h3
              go_wp2_with (go_at_call 163; refine (KP.out u hb).mono ?_; rintro e u2 ⟨rfl, hw⟩; subst u2)
              exact zaa _ rfl rfl (Below.refl _ _)
            · obtain ⟨(h2 : vals 2 = .int .i64 xa), (h4 : vals 4 = .int .i64 p), _⟩ := hf
              simp only [h2, h4]
              clear h2 h4
              go_wp2_with fail
              exact zaa _ rfl rfl (Below.refl _ _)
            · go_wp2_with (first | (refine wpList_load_row rfl 46 (.tmp 5) rfl g5 rfl _ _ _ _ (HC.out.next hb) Tryz.underlying46 rfl (zfn _) ?_))
              exact zaa _ rfl rfl (Below.refl _ _)
            · go_wp2_with fail
              exact zaa _ rfl rfl (Below.refl _ _)
            · go_wp2_with fail
              exact zaa _ rfl rfl (Below.refl _ _)
            · go_wp2_with fail
              exact zaa _ rfl rfl (Below.refl _ _)
            · obtain ⟨(h9 : vals 9 = .bool false), (h4 : vals 4 = .int .i64 p), _⟩ := hf
              simp only [h9, h4]
              clear h9 h4
              go_wp2_with fail
              exact zaa _ rfl rfl (Below.refl _ _)
            · obtain ⟨(h10 : vals 10 = .bool false), _⟩ := hf
              simp only [h10]
              clear h10
              go_wp2_with fail
              exact zaa _ rfl (fun h => by cases h) (Below.refl _ _)
            · obtain ⟨(h11 : false = true → vals 11 = .bool dr), (h10 : vals 10 = .bool false), _⟩ := hf
              simp only [h10]
              clear h11 h10
              go_wp2_with fail
              exact zaa _ rfl (fun h => by cases h) (Below.refl _ _)
            · obtain ⟨(h10 : vals 10 = .bool false), (h12 : false = true → vals 12 = .bool (!dr)), _⟩ := hf
              simp only [h10]
              clear h10 h12
              go_wp2_with fail
              exact zaa _ rfl rfl (Below.refl _ _)
            · go_wp2_with fail
              exact zaa _ rfl rfl (Below.refl _ _)
            · go_wp2_with fail
              exact zaa _ rfl rfl (Below.refl _ _)
            · obtain ⟨(h15 : vals 15 = .pointer (some ⟨b, 0, none⟩)), _⟩ := hf
              simp only [h15]
              clear h15
              go_wp2_with fail
              exact zaa _ rfl rfl (Below.refl _ _)
            · obtain ⟨(h16 : vals 16 = .pointer (some ⟨b, 0, none⟩)), _⟩ := hf
              simp only [h16]
              clear h16
              go_wp2_with fail
              exact zaa _ rfl rfl (Below.refl _ _)
            · obtain ⟨(h17 : vals 17 = .pointer (some ⟨b, 1, none⟩)), _⟩ := hf
              simp only [h17]
              clear h17
              have cm := (HP.out.next hb).int 1 (by decide)
              rw [MN.out] at cm
              go_wp2_with fail
              exact zaa _ rfl rfl (Below.refl _ _)
            · obtain ⟨(h18 : vals 18 = .int .i64 mn), (h10 : vals 10 = .bool false), _⟩ := hf
              simp only [h18, h10]
              clear h18 h10
              go_wp2_with (go_at_call 164; refine (KG.out u hb).mono ?_; rintro e u2 ⟨rfl, b2⟩)
              exact zaa _ rfl rfl b2
            · obtain ⟨(h5 : vals 5 = .agg #[.int .i64 xa, .int .i64 p]), (h6 : vals 6 = .agg (rowF (iv (ch f k)) 40)), (h7 : vals 7 = .bool ny), (h8 : vals 8 = .bool dr), (h13 : vals 13 = .bool (false && !dr)), (h14 : vals 14 = .bool false), (h19 : vals 19 = .agg #[.int .i64 gl, .int .i64 gr]), _⟩ := hf
              simp only [h5, h6, h7, h8, h13, h14, h19]
              clear h5 h6 h7 h8 h13 h14 h19
              go_wp2_with (first | (refine wpList_built rfl 207 _ rfl #[(0, .agg #[.int .i64 xa, .int .i64 p]), (1, .agg (rowF (iv (ch f k)) 40)), (2, .bool ny), (3, .bool dr), (4, .bool (false && !dr)), (5, .bool false), (6, .agg #[.int .i64 gl, .int .i64 gr])] (by simp [Act.eval]) V KB.out ?_))
              exact zaa _ rfl rfl (Below.refl _ _)
            · obtain ⟨(h0 : vals 0 = .int .i64 (k : Int)), _⟩ := hf
              simp only [h0]
              clear h0
              go_wp2_with fail
              exact zaa _ rfl rfl (Below.refl _ _)
          intro vals u hb hf
          obtain ⟨_, _, _, _, _, _, _, _, _, _, _, _, _, _, _, _, _, _, _, _, (h20 : vals 20 = .agg V), (h21 : vals 21 = .pointer (some ⟨g3, k * 48, none⟩)), _⟩ := hf
          simp only [h20, h21]
          clear h20 h21
          have H9 := hide (H4.out.next hb)
          have C9 := hide (HC.out.next hb)
          have P9 := hide (HP.out.next hb)
          have B9 := hide (zgv B4.out S0.out hb)
          have N9 := hide (R4.out.next hb)
          clear H4 HC HP B4 R4 KP KG hb
          go_wp2_with (first | (refine zau rfl 207 (.tmp 51) (.tmp 50) rfl g3 (k * 48) 48 (vFst f k) rfl VV.out H9.out (by omega) zkN (fun j _ => zhI f k j) ?_; refine zaj fun wz hwz => ?_; have HZ : Hid (HasF 208 wz g3 288 (zgZ f (k + 1))) := hide (by rw [hwz]; exact (H9.out.cells (k * 48) 48 (vFst f k)).ext (zff f k)); have BZ : Hid (But g3 u wz) := hide (by rw [hwz]; exact But.cells _ _ _ (But.refl _ _)); clear hwz))
          exact ⟨⟨k + 1, by omega, by go_num, HZ.out, BZ.out.keep N9.out NE.out, BZ.out.keep P9.out NP.out, bbut B9.out BZ.out LE.out S0.out⟩, by simp [intOf]; omega⟩
        ·
          rw [hon] at KB
          clear hon
          generalize drOf f k = dr at *
          refine zbq [_, _, _, _, _, _, _, _, _, _, _, _, _, _, _, _, _, _, _, _, _, _] _ rfl (voR g5 b g3 f k xa p mn gl gr ny dr true V) _ (fun vals => by simp only [zaA, Act.put, List.setIfInBounds_toArray, List.set_cons_succ, List.set_cons_zero, Nat.reduceAdd]; rfl) (by kernel_rfl) (by kernel_rfl) (by kernel_rfl) (by kernel_rfl) zhJ ?_ ?_
          · refine (zab (fun vals u hb hf => ?_) (zab (fun vals u hb hf => ?_) (zab (fun vals u hb hf => ?_) (zab (fun vals u hb hf => ?_) (zab (fun vals u hb hf => ?_) (zab (fun vals u hb hf => ?_) (zab (fun vals u hb hf => ?_) (zab (fun vals u hb hf => ?_) (zab (fun vals u hb hf => ?_) (zab (fun vals u hb hf => ?_) (zab (fun vals u hb hf => ?_) (zab (fun vals u hb hf => ?_) (zab (fun vals u hb hf => ?_) (zab (fun vals u hb hf => ?_) (zab (fun vals u hb hf => ?_) (zab (fun vals u hb hf => ?_) (zab (fun vals u hb hf => ?_) (zab (fun vals u hb hf => ?_) (zab (fun vals u hb hf => ?_) (zab (fun vals u hb hf => ?_) (zab (fun vals u hb hf => ?_) (zab (fun vals u hb hf => ?_) zcb))))))))))))))))))))))
            · go_wp2_with fail
              exact zaa _ rfl rfl (Below.refl _ _)
            · go_wp2_with fail
              exact zaa _ rfl rfl (Below.refl _ _)
            · obtain ⟨(h1 : vals 1 = .pointer (some ⟨g5, 37, none⟩)), _⟩ := hf
              simp only [h1]
              clear h1
              have ca := (HC.out.next hb).int 37 (by decide)
              rw [XA.out] at ca
              go_wp2_with fail
              exact zaa _ rfl rfl (Below.refl _ _)
            · go_wp2_with fail
              exact zaa _ rfl rfl (Below.refl _ _)
            · obtain ⟨(h3 : vals 3 = .bool ny), _⟩ := hf
              simp only [h3]
              clear h3
              go_wp2_with (go_at_call 163; refine (KP.out u hb).mono ?_; rintro e u2 ⟨rfl, hw⟩; subst u2)
              exact zaa _ rfl rfl (Below.refl _ _)
            · obtain ⟨(h2 : vals 2 = .int .i64 xa), (h4 : vals 4 = .int .i64 p), _⟩ := hf
              simp only [h2, h4]
              clear h2 h4
              go_wp2_with fail
              exact zaa _ rfl rfl (Below.refl _ _)
            · go_wp2_with (first | (refine wpList_load_row rfl 46 (.tmp 5) rfl g5 rfl _ _ _ _ (HC.out.next hb) Tryz.underlying46 rfl (zfn _) ?_))
              exact zaa _ rfl rfl (Below.refl _ _)
            · go_wp2_with fail
              exact zaa _ rfl rfl (Below.refl _ _)
            · go_wp2_with fail
              exact zaa _ rfl rfl (Below.refl _ _)
            · go_wp2_with fail
              exact zaa _ rfl rfl (Below.refl _ _)
            · obtain ⟨(h9 : vals 9 = .bool true), (h4 : vals 4 = .int .i64 p), _⟩ := hf
              simp only [h9, h4]
              clear h9 h4
              go_wp2_with fail
              exact zaa _ rfl rfl (Below.refl _ _)
            · obtain ⟨(h10 : vals 10 = .bool true), _⟩ := hf
              simp only [h10]
              clear h10
              go_wp2_with fail
              exact zaa _ rfl (fun _ => rfl) (Below.refl _ _)
            · obtain ⟨(h11 : true = true → vals 11 = .bool dr), (h10 : vals 10 = .bool true), _⟩ := hf
              replace h11 := h11 rfl
              simp only [h11, h10]
              clear h11 h10
              go_wp2_with fail
              exact zaa _ rfl (fun _ => rfl) (Below.refl _ _)
            · obtain ⟨(h10 : vals 10 = .bool true), (h12 : true = true → vals 12 = .bool (!dr)), _⟩ := hf
              replace h12 := h12 rfl
              simp only [h10, h12]
              clear h10 h12
              go_wp2_with fail
              exact zaa _ rfl rfl (Below.refl _ _)
            · go_wp2_with fail
              exact zaa _ rfl rfl (Below.refl _ _)
            · go_wp2_with fail
              exact zaa _ rfl rfl (Below.refl _ _)
            · obtain ⟨(h15 : vals 15 = .pointer (some ⟨b, 0, none⟩)), _⟩ := hf
              simp only [h15]
              clear h15
              go_wp2_with fail
              exact zaa _ rfl rfl (Below.refl _ _)
            · obtain ⟨(h16 : vals 16 = .pointer (some ⟨b, 0, none⟩)), _⟩ := hf
              simp only [h16]
              clear h16
              go_wp2_with fail
              exact zaa _ rfl rfl (Below.refl _ _)
            · obtain ⟨(h17 : vals 17 = .pointer (some ⟨b, 1, none⟩)), _⟩ := hf
              simp only [h17]
              clear h17
              have cm := (HP.out.next hb).int 1 (by decide)
              rw [MN.out] at cm
              go_wp2_with fail
              exact zaa _ rfl rfl (Below.refl _ _)
            · obtain ⟨(h18 : vals 18 = .int .i64 mn), (h10 : vals 10 = .bool true), _⟩ := hf
              simp only [h18, h10]
              clear h18 h10
              go_wp2_with (go_at_call 164; refine (KG.out u hb).mono ?_; rintro e u2 ⟨rfl, b2⟩)
              exact zaa _ rfl rfl b2
            · obtain ⟨(h5 : vals 5 = .agg #[.int .i64 xa, .int .i64 p]), (h6 : vals 6 = .agg (rowF (iv (ch f k)) 40)), (h7 : vals 7 = .bool ny), (h8 : vals 8 = .bool dr), (h13 : vals 13 = .bool (true && !dr)), (h14 : vals 14 = .bool true), (h19 : vals 19 = .agg #[.int .i64 gl, .int .i64 gr]), _⟩ := hf
              simp only [h5, h6, h7, h8, h13, h14, h19]
              clear h5 h6 h7 h8 h13 h14 h19
              go_wp2_with (first | (refine wpList_built rfl 207 _ rfl #[(0, .agg #[.int .i64 xa, .int .i64 p]), (1, .agg (rowF (iv (ch f k)) 40)), (2, .bool ny), (3, .bool dr), (4, .bool (true && !dr)), (5, .bool true), (6, .agg #[.int .i64 gl, .int .i64 gr])] (by simp [Act.eval]) V KB.out ?_))
              exact zaa _ rfl rfl (Below.refl _ _)
            · obtain ⟨(h0 : vals 0 = .int .i64 (k : Int)), _⟩ := hf
              simp only [h0]
              clear h0
              go_wp2_with fail
              exact zaa _ rfl rfl (Below.refl _ _)
          intro vals u hb hf
          obtain ⟨_, _, _, _, _, _, _, _, _, _, _, _, _, _, _, _, _, _, _, _, (h20 : vals 20 = .agg V), (h21 : vals 21 = .pointer (some ⟨g3, k * 48, none⟩)), _⟩ := hf
          simp only [h20, h21]
          clear h20 h21
          have H9 := hide (H4.out.next hb)
          have C9 := hide (HC.out.next hb)
          have P9 := hide (HP.out.next hb)
          have B9 := hide (zgv B4.out S0.out hb)
          have N9 := hide (R4.out.next hb)
          clear H4 HC HP B4 R4 KP KG hb
          go_wp2_with (first | (refine zau rfl 207 (.tmp 51) (.tmp 50) rfl g3 (k * 48) 48 (vFst f k) rfl VV.out H9.out (by omega) zkN (fun j _ => zhI f k j) ?_; refine zaj fun wz hwz => ?_; have HZ : Hid (HasF 208 wz g3 288 (zgZ f (k + 1))) := hide (by rw [hwz]; exact (H9.out.cells (k * 48) 48 (vFst f k)).ext (zff f k)); have BZ : Hid (But g3 u wz) := hide (by rw [hwz]; exact But.cells _ _ _ (But.refl _ _)); clear hwz))
          exact ⟨⟨k + 1, by omega, by go_num, HZ.out, BZ.out.keep N9.out NE.out, BZ.out.keep P9.out NP.out, bbut B9.out BZ.out LE.out S0.out⟩, by simp [intOf]; omega⟩
      ·
        have HN : Hid (nyOf f k = false) := hide (by unfold nyOf; simp [h4])
        have ci := zjC f k hlt
        have CR := hide (zby (ch f k) 40)
        go_wp2_with (first
          | (refine zav rfl 46 rfl (rowF (iv fun _ => 0) 40) zno ?_)
          | (refine wpList_store_row rfl 46 (.tmp 5) (.tmp 16) rfl wr.heap.size (rowF (iv (ch f k)) 40) (by simp [Act.eval]) rfl 46 _ (zbo _ _ _ _) (zfn _) (by rw [zai, zai]) (zby _ _) ?_; refine zaj fun w2 hw2 => ?_; have C2 : Hid (HasF 46 w2 wr.heap.size 40 (iv (ch f k))) := hide (by rw [hw2]; exact setRow_heap _ _ _ _ _ _ (zbo _ _ _ _)); have W2 : Hid (Below wr.heap.size wr w2) := hide (by rw [hw2]; exact below_setRow ((Below.refl _ _).alloc (Nat.le_refl _) _) (Nat.le_refl _) _); have c3 := C2.out.int 3 (by decide); clear hw2)
          | (go_at_call 162; refine (S3.out _).mono ?_; rintro e w' ⟨rfl, hw⟩; subst w'))
        obtain ⟨g5, hg5⟩ : ∃ g, wr.heap.size = g := ⟨_, rfl⟩
        rw [hg5] at C2 ⊢
        have c1 := C2.out.int 1 (by decide)
        have k1 := zah c1 C2.out.lt
        haveI := zax w2
        refine zbn (by kernel_rfl) (by kernel_rfl) ?_
        repeat (go_big_quiet_step ((first
          | (go_at_call 162; exact zaF (zfR _ _ _)))))
        refine wpQuiet_nil ?_
        rintro _ ⟨wk, rfl⟩
        have HC := hide (C2.out.next wk.below)
        have W4 := hide (zaz W2.out wk.below)
        have H4 := hide (H1.out.next W4.out)
        have R4 := hide (R1.out.next W4.out)
        have HP := hide (P1.out.next W4.out)
        have B4 := hide (zgv B1.out S0.out W4.out)
        clear C2 W2 k1 c1 c3 H1 R1 P1 B1 W4 hg5
        generalize wk.val = w4 at *
        simp only [e7, e6]
        go_wp2_with fail
        have KB := hide (ziK f k)
        have KP : Hid (∀ u, Below w4.heap.size w4 u → Calls Tryz.prog 163 #[.pointer (some ⟨g5, 0, none⟩), .bool (nyOf f k)] u fun e w' => e = Ending.returned (.int .i64 (per0 f k)) ∧ w' = u) := hide (fun u hb => zhm (HC.out.next hb) x0.1 x0.2 (nyOf f k))
        have KG : Hid (∀ u, Below w4.heap.size w4 u → Calls Tryz.prog 164 #[.pointer (some ⟨g5, 0, none⟩), .int .i64 (f 1)] u fun e w' => e = Ending.returned (.agg #[.int .i64 (glOf f k), .int .i64 (grOf f k)]) ∧ Below u.heap.size u w') := hide (fun u hb => zjB (HC.out.next hb) ((HL.out.next (by rw [hs0]; exact B4.out)).next hb) (f 1) x2.1 x2.2 m1.1 m1.2)
        obtain ⟨xa, XA⟩ : ∃ x, ch f k 37 = x := ⟨_, rfl⟩
        obtain ⟨mn, MN⟩ : ∃ x, f 1 = x := ⟨_, rfl⟩
        obtain ⟨V, VV⟩ : ∃ V, Value.agg V = .agg (rowF (vFst f k) 48) := ⟨_, rfl⟩
        rw [XA, ← VV] at KB
        rw [MN] at KG
        rw [HN.out] at KB KP
        replace XA := hide XA
        replace MN := hide MN
        replace VV := hide VV
        clear x0 x2 m1 ci S3 e6 e7 CR
        generalize per0 f k = p at *
        generalize glOf f k = gl at *
        generalize grOf f k = gr at *
        rcases hon : soOf f k with _ | _
        ·
          rw [hon] at KB
          clear hon
          generalize drOf f k = dr at *
          refine zbq [_, _, _, _, _, _, _, _, _, _, _, _, _, _, _, _, _, _, _, _, _, _] _ rfl (voR g5 b g3 f k xa p mn gl gr false dr false V) _ (fun vals => by simp only [zaA, Act.put, List.setIfInBounds_toArray, List.set_cons_succ, List.set_cons_zero, Nat.reduceAdd]; rfl) (by kernel_rfl) (by kernel_rfl) (by kernel_rfl) (by kernel_rfl) zhJ ?_ ?_
          · refine (zab (fun vals u hb hf => ?_) (zab (fun vals u hb hf => ?_) (zab (fun vals u hb hf => ?_) (zab (fun vals u hb hf => ?_) (zab (fun vals u hb hf => ?_) (zab (fun vals u hb hf => ?_) (zab (fun vals u hb hf => ?_) (zab (fun vals u hb hf => ?_) (zab (fun vals u hb hf => ?_) (zab (fun vals u hb hf => ?_) (zab (fun vals u hb hf => ?_) (zab (fun vals u hb hf => ?_) (zab (fun vals u hb hf => ?_) (zab (fun vals u hb hf => ?_) (zab (fun vals u hb hf => ?_) (zab (fun vals u hb hf => ?_) (zab (fun vals u hb hf => ?_) (zab (fun vals u hb hf => ?_) (zab (fun vals u hb hf => ?_) (zab (fun vals u hb hf => ?_) (zab (fun vals u hb hf => ?_) (zab (fun vals u hb hf => ?_) zcb))))))))))))))))))))))
            · go_wp2_with fail
              exact zaa _ rfl rfl (Below.refl _ _)
            · go_wp2_with fail
              exact zaa _ rfl rfl (Below.refl _ _)
            · obtain ⟨(h1 : vals 1 = .pointer (some ⟨g5, 37, none⟩)), _⟩ := hf
              simp only [h1]
              clear h1
              have ca := (HC.out.next hb).int 37 (by decide)
              rw [XA.out] at ca
              go_wp2_with fail
              exact zaa _ rfl rfl (Below.refl _ _)
            · go_wp2_with fail
              exact zaa _ rfl rfl (Below.refl _ _)
            · obtain ⟨(h3 : vals 3 = .bool false), _⟩ := hf
              simp only [h3]
              clear h3
              go_wp2_with (go_at_call 163; refine (KP.out u hb).mono ?_; rintro e u2 ⟨rfl, hw⟩; subst u2)
              exact zaa _ rfl rfl (Below.refl _ _)
            · obtain ⟨(h2 : vals 2 = .int .i64 xa), (h4 : vals 4 = .int .i64 p), _⟩ := hf
              simp only [h2, h4]
              clear h2 h4
              go_wp2_with fail
              exact zaa _ rfl rfl (Below.refl _ _)
            · go_wp2_with (first | (refine wpList_load_row rfl 46 (.tmp 5) rfl g5 rfl _ _ _ _ (HC.out.next hb) Tryz.underlying46 rfl (zfn _) ?_))
              exact zaa _ rfl rfl (Below.refl _ _)
            · go_wp2_with fail
              exact zaa _ rfl rfl (Below.refl _ _)
            · go_wp2_with fail
              exact zaa _ rfl rfl (Below.refl _ _)
            · go_wp2_with fail
              exact zaa _ rfl rfl (Below.refl _ _)
            · obtain ⟨(h9 : vals 9 = .bool false), (h4 : vals 4 = .int .i64 p), _⟩ := hf
              simp only [h9, h4]
              clear h9 h4
              go_wp2_with fail
              exact zaa _ rfl rfl (Below.refl _ _)
            · obtain ⟨(h10 : vals 10 = .bool false), _⟩ := hf
              simp only [h10]
              clear h10
              go_wp2_with fail
              exact zaa _ rfl (fun h => by cases h) (Below.refl _ _)
            · obtain ⟨(h11 : false = true → vals 11 = .bool dr), (h10 : vals 10 = .bool false), _⟩ := hf
              simp only [h10]
              clear h11 h10
              go_wp2_with fail
              exact zaa _ rfl (fun h => by cases h) (Below.refl _ _)
            · obtain ⟨(h10 : vals 10 = .bool false), (h12 : false = true → vals 12 = .bool (!dr)), _⟩ := hf
              simp only [h10]
              clear h10 h12
              go_wp2_with fail
              exact zaa _ rfl rfl (Below.refl _ _)
            · go_wp2_with fail
              exact zaa _ rfl rfl (Below.refl _ _)
            · go_wp2_with fail
              exact zaa _ rfl rfl (Below.refl _ _)
            · obtain ⟨(h15 : vals 15 = .pointer (some ⟨b, 0, none⟩)), _⟩ := hf
              simp only [h15]
              clear h15
              go_wp2_with fail
              exact zaa _ rfl rfl (Below.refl _ _)
            · obtain ⟨(h16 : vals 16 = .pointer (some ⟨b, 0, none⟩)), _⟩ := hf
              simp only [h16]
              clear h16
              go_wp2_with fail
              exact zaa _ rfl rfl (Below.refl _ _)
            · obtain ⟨(h17 : vals 17 = .pointer (some ⟨b, 1, none⟩)), _⟩ := hf
              simp only [h17]
              clear h17
              have cm := (HP.out.next hb).int 1 (by decide)
              rw [MN.out] at cm
              go_wp2_with fail
              exact zaa _ rfl rfl (Below.refl _ _)
            · obtain ⟨(h18 : vals 18 = .int .i64 mn), (h10 : vals 10 = .bool false), _⟩ := hf
              simp only [h18, h10]
              clear h18 h10
              go_wp2_with (go_at_call 164; refine (KG.out u hb).mono ?_; rintro e u2 ⟨rfl, b2⟩)
              exact zaa _ rfl rfl b2
            · obtain ⟨(h5 : vals 5 = .agg #[.int .i64 xa, .int .i64 p]), (h6 : vals 6 = .agg (rowF (iv (ch f k)) 40)), (h7 : vals 7 = .bool false), (h8 : vals 8 = .bool dr), (h13 : vals 13 = .bool (false && !dr)), (h14 : vals 14 = .bool false), (h19 : vals 19 = .agg #[.int .i64 gl, .int .i64 gr]), _⟩ := hf
              simp only [h5, h6, h7, h8, h13, h14, h19]
              clear h5 h6 h7 h8 h13 h14 h19
              go_wp2_with (first | (refine wpList_built rfl 207 _ rfl #[(0, .agg #[.int .i64 xa, .int .i64 p]), (1, .agg (rowF (iv (ch f k)) 40)), (2, .bool false), (3, .bool dr), (4, .bool (false && !dr)), (5, .bool false), (6, .agg #[.int .i64 gl, .int .i64 gr])] (by simp [Act.eval]) V KB.out ?_))
              exact zaa _ rfl rfl (Below.refl _ _)
            · obtain ⟨(h0 : vals 0 = .int .i64 (k : Int)), _⟩ := hf
              simp only [h0]
              clear h0
              go_wp2_with fail
              exact zaa _ rfl rfl (Below.refl _ _)
          intro vals u hb hf
          obtain ⟨_, _, _, _, _, _, _, _, _, _, _, _, _, _, _, _, _, _, _, _, (h20 : vals 20 = .agg V), (h21 : vals 21 = .pointer (some ⟨g3, k * 48, none⟩)), _⟩ := hf
          simp only [h20, h21]
          clear h20 h21
          have H9 := hide (H4.out.next hb)
          have C9 := hide (HC.out.next hb)
          have P9 := hide (HP.out.next hb)
          have B9 := hide (zgv B4.out S0.out hb)
          have N9 := hide (R4.out.next hb)
          clear H4 HC HP B4 R4 KP KG hb
          go_wp2_with (first | (refine zau rfl 207 (.tmp 51) (.tmp 50) rfl g3 (k * 48) 48 (vFst f k) rfl VV.out H9.out (by omega) zkN (fun j _ => zhI f k j) ?_; refine zaj fun wz hwz => ?_; have HZ : Hid (HasF 208 wz g3 288 (zgZ f (k + 1))) := hide (by rw [hwz]; exact (H9.out.cells (k * 48) 48 (vFst f k)).ext (zff f k)); have BZ : Hid (But g3 u wz) := hide (by rw [hwz]; exact But.cells _ _ _ (But.refl _ _)); clear hwz))
          exact ⟨⟨k + 1, by omega, by go_num, HZ.out, BZ.out.keep N9.out NE.out, BZ.out.keep P9.out NP.out, bbut B9.out BZ.out LE.out S0.out⟩, by simp [intOf]; omega⟩
        ·
          rw [hon] at KB
          clear hon
          generalize drOf f k = dr at *
          refine zbq [_, _, _, _, _, _, _, _, _, _, _, _, _, _, _, _, _, _, _, _, _, _] _ rfl (voR g5 b g3 f k xa p mn gl gr false dr true V) _ (fun vals => by simp only [zaA, Act.put, List.setIfInBounds_toArray, List.set_cons_succ, List.set_cons_zero, Nat.reduceAdd]; rfl) (by kernel_rfl) (by kernel_rfl) (by kernel_rfl) (by kernel_rfl) zhJ ?_ ?_
          · refine (zab (fun vals u hb hf => ?_) (zab (fun vals u hb hf => ?_) (zab (fun vals u hb hf => ?_) (zab (fun vals u hb hf => ?_) (zab (fun vals u hb hf => ?_) (zab (fun vals u hb hf => ?_) (zab (fun vals u hb hf => ?_) (zab (fun vals u hb hf => ?_) (zab (fun vals u hb hf => ?_) (zab (fun vals u hb hf => ?_) (zab (fun vals u hb hf => ?_) (zab (fun vals u hb hf => ?_) (zab (fun vals u hb hf => ?_) (zab (fun vals u hb hf => ?_) (zab (fun vals u hb hf => ?_) (zab (fun vals u hb hf => ?_) (zab (fun vals u hb hf => ?_) (zab (fun vals u hb hf => ?_) (zab (fun vals u hb hf => ?_) (zab (fun vals u hb hf => ?_) (zab (fun vals u hb hf => ?_) (zab (fun vals u hb hf => ?_) zcb))))))))))))))))))))))
            · go_wp2_with fail
              exact zaa _ rfl rfl (Below.refl _ _)
            · go_wp2_with fail
              exact zaa _ rfl rfl (Below.refl _ _)
            · obtain ⟨(h1 : vals 1 = .pointer (some ⟨g5, 37, none⟩)), _⟩ := hf
              simp only [h1]
              clear h1
              have ca := (HC.out.next hb).int 37 (by decide)
              rw [XA.out] at ca
              go_wp2_with fail
              exact zaa _ rfl rfl (Below.refl _ _)
            · go_wp2_with fail
              exact zaa _ rfl rfl (Below.refl _ _)
            · obtain ⟨(h3 : vals 3 = .bool false), _⟩ := hf
              simp only [h3]
              clear h3
              go_wp2_with (go_at_call 163; refine (KP.out u hb).mono ?_; rintro e u2 ⟨rfl, hw⟩; subst u2)
              exact zaa _ rfl rfl (Below.refl _ _)
            · obtain ⟨(h2 : vals 2 = .int .i64 xa), (h4 : vals 4 = .int .i64 p), _⟩ := hf
              simp only [h2, h4]
              clear h2 h4
              go_wp2_with fail
              exact zaa _ rfl rfl (Below.refl _ _)
            · go_wp2_with (first | (refine wpList_load_row rfl 46 (.tmp 5) rfl g5 rfl _ _ _ _ (HC.out.next hb) Tryz.underlying46 rfl (zfn _) ?_))
              exact zaa _ rfl rfl (Below.refl _ _)
            · go_wp2_with fail
              exact zaa _ rfl rfl (Below.refl _ _)
            · go_wp2_with fail
              exact zaa _ rfl rfl (Below.refl _ _)
            · go_wp2_with fail
              exact zaa _ rfl rfl (Below.refl _ _)
            · obtain ⟨(h9 : vals 9 = .bool true), (h4 : vals 4 = .int .i64 p), _⟩ := hf
              simp only [h9, h4]
              clear h9 h4
              go_wp2_with fail
              exact zaa _ rfl rfl (Below.refl _ _)
            · obtain ⟨(h10 : vals 10 = .bool true), _⟩ := hf
              simp only [h10]
              clear h10
              go_wp2_with fail
              exact zaa _ rfl (fun _ => rfl) (Below.refl _ _)
            · obtain ⟨(h11 : true = true → vals 11 = .bool dr), (h10 : vals 10 = .bool true), _⟩ := hf
              replace h11 := h11 rfl
              simp only [h11, h10]
              clear h11 h10
              go_wp2_with fail
              exact zaa _ rfl (fun _ => rfl) (Below.refl _ _)
            · obtain ⟨(h10 : vals 10 = .bool true), (h12 : true = true → vals 12 = .bool (!dr)), _⟩ := hf
              replace h12 := h12 rfl
              simp only [h10, h12]
              clear h10 h12
              go_wp2_with fail
              exact zaa _ rfl rfl (Below.refl _ _)
            · go_wp2_with fail
              exact zaa _ rfl rfl (Below.refl _ _)
            · go_wp2_with fail
              exact zaa _ rfl rfl (Below.refl _ _)
            · obtain ⟨(h15 : vals 15 = .pointer (some ⟨b, 0, none⟩)), _⟩ := hf
              simp only [h15]
              clear h15
              go_wp2_with fail
              exact zaa _ rfl rfl (Below.refl _ _)
            · obtain ⟨(h16 : vals 16 = .pointer (some ⟨b, 0, none⟩)), _⟩ := hf
              simp only [h16]
              clear h16
              go_wp2_with fail
              exact zaa _ rfl rfl (Below.refl _ _)
            · obtain ⟨(h17 : vals 17 = .pointer (some ⟨b, 1, none⟩)), _⟩ := hf
              simp only [h17]
              clear h17
              have cm := (HP.out.next hb).int 1 (by decide)
              rw [MN.out] at cm
              go_wp2_with fail
              exact zaa _ rfl rfl (Below.refl _ _)
            · obtain ⟨(h18 : vals 18 = .int .i64 mn), (h10 : vals 10 = .bool true), _⟩ := hf
              simp only [h18, h10]
              clear h18 h10
              go_wp2_with (go_at_call 164; refine (KG.out u hb).mono ?_; rintro e u2 ⟨rfl, b2⟩)
              exact zaa _ rfl rfl b2
            · obtain ⟨(h5 : vals 5 = .agg #[.int .i64 xa, .int .i64 p]), (h6 : vals 6 = .agg (rowF (iv (ch f k)) 40)), (h7 : vals 7 = .bool false), (h8 : vals 8 = .bool dr), (h13 : vals 13 = .bool (true && !dr)), (h14 : vals 14 = .bool true), (h19 : vals 19 = .agg #[.int .i64 gl, .int .i64 gr]), _⟩ := hf
              simp only [h5, h6, h7, h8, h13, h14, h19]
              clear h5 h6 h7 h8 h13 h14 h19
              go_wp2_with (first | (refine wpList_built rfl 207 _ rfl #[(0, .agg #[.int .i64 xa, .int .i64 p]), (1, .agg (rowF (iv (ch f k)) 40)), (2, .bool false), (3, .bool dr), (4, .bool (true && !dr)), (5, .bool true), (6, .agg #[.int .i64 gl, .int .i64 gr])] (by simp [Act.eval]) V KB.out ?_))
              exact zaa _ rfl rfl (Below.refl _ _)
            · obtain ⟨(h0 : vals 0 = .int .i64 (k : Int)), _⟩ := hf
              simp only [h0]
              clear h0
              go_wp2_with fail
              exact zaa _ rfl rfl (Below.refl _ _)
          intro vals u hb hf
          obtain ⟨_, _, _, _, _, _, _, _, _, _, _, _, _, _, _, _, _, _, _, _, (h20 : vals 20 = .agg V), (h21 : vals 21 = .pointer (some ⟨g3, k * 48, none⟩)), _⟩ := hf
          simp only [h20, h21]
          clear h20 h21
          have H9 := hide (H4.out.next hb)
          have C9 := hide (HC.out.next hb)
          have P9 := hide (HP.out.next hb)
          have B9 := hide (zgv B4.out S0.out hb)
          have N9 := hide (R4.out.next hb)
          clear H4 HC HP B4 R4 KP KG hb
          go_wp2_with (first | (refine zau rfl 207 (.tmp 51) (.tmp 50) rfl g3 (k * 48) 48 (vFst f k) rfl VV.out H9.out (by omega) zkN (fun j _ => zhI f k j) ?_; refine zaj fun wz hwz => ?_; have HZ : Hid (HasF 208 wz g3 288 (zgZ f (k + 1))) := hide (by rw [hwz]; exact (H9.out.cells (k * 48) 48 (vFst f k)).ext (zff f k)); have BZ : Hid (But g3 u wz) := hide (by rw [hwz]; exact But.cells _ _ _ (But.refl _ _)); clear hwz))
          exact ⟨⟨k + 1, by omega, by go_num, HZ.out, BZ.out.keep N9.out NE.out, BZ.out.keep P9.out NP.out, bbut B9.out BZ.out LE.out S0.out⟩, by simp [intOf]; omega⟩
    · obtain rfl : k = 6 := by omega
      have KL := hide (fun (u : World) (hu : HasF 49 u b 244 (iv f)) => ztS hu OK.out)
      by_cases h0 : zbS f = 0
      · have EQ := hide (zbh (zCS h0))
        have PE := hide (zCU h0)
        rw [h0] at KL
        rw [HasF, EQ.out] at H1
        have ZI := hide (info_V (vrow f (accs f) (per0 f)))
        have ZO := hide (zea (N := 288) fun j _ => zkC f (accs f) (per0 f) (j / 48) (j % 48))
        have ZS : Hid ((rowF zV 288).size = (rowF (vrow f (accs f) (per0 f)) 288).size) := hide (by rw [zai, zai])
        clear h0
        have HZ := hide (show rowF (vrow f (accs f) (per0 f)) 288 = rowF (vrow f (accs f) (per0 f)) 288 from rfl)
        change Hid ((rowF (vrow f (accs f) (per0 f)) 288).all (·.oneCell') = true) at ZO
        obtain ⟨Z, hZ⟩ : ∃ Z, Z = rowF (vrow f (accs f) (per0 f)) 288 := ⟨_, rfl⟩
        rw [← hZ] at H1 ZI ZO ZS
        replace hZ := hide hZ
        clear EQ HZ
        go_wp2_with (first
          | (go_at_call 98; refine (KL.out _ P1.out).mono ?_; rintro e w' ⟨rfl, hw⟩; subst w')
          | (refine wpList_load_row rfl 208 (.tmp 3) rfl g3 rfl _ _ _ _ H1.out Tryz.underlying208 rfl ZI.out ?_)
          | (refine wpList_store_row rfl 208 (.tmp 2) (.tmp 71) rfl s0 _ rfl rfl 208 _ R1.out ZI.out ZS.out ZO.out ?_))
        refine bodyPost_ret (results_cell_row rfl _ _ s0 208 _ (0, 0) _ rfl (setRow_heap _ _ _ _ _ _ R1.out) Tryz.underlying208 rfl ZI.out) rfl ?_
        exact ⟨per0 f, PE.out, by rw [hZ.out], by rw [hs0]; exact below_setRow B1.out (Nat.le_refl _) _⟩
      · have hl := zkx OK.out
        have PE := hide (zCV h0)
        have a1 := zxy f
        have x0 := (OK.out.chan (k := 1) (by decide)).1
        have q1 : 0 < orL (ch f 1 0) 4096 ∧ orL (ch f 1 0) 4096 ≤ 4096 := zhj (by omega)
        have q2 : 0 < orL (f 2) 256 ∧ orL (f 2) 256 ≤ 256 := zhj (by have := OK.out.2.2.1; omega)
        have y1 : 0 < per0 f 1 ∧ per0 f 1 ≤ 24576 := by omega
        have y2 : 0 < per0 f 1 * orL (f 2) 256 := Int.mul_pos y1.1 q2.1
        have y3 : per0 f 1 * orL (f 2) 256 ≤ 24576 * 256 := Int.mul_le_mul y1.2 q2.2 (by omega) (by omega)
        have w6 : IntKind.i64.wrap (per0 f 1 * orL (f 2) 256) = per0 f 1 * orL (f 2) 256 := zbE _ (by omega) (by omega)
        have KO := hide (fun w => zel (f 2) 256 w)
        have C49 : wr.cell? ⟨g3, 49, none⟩ = some (.int .i64 (per0 f 1)) := (H1.out.at 49 (by decide)).trans (by rw [zkO f 1 1 (by decide) (by decide)]; rfl)
        have C2 : wr.cell? ⟨b, 2, none⟩ = some (.int .i64 (f 2)) := P1.out.int 2 (by decide)
        have LZ := hide (fun v => zCT h0 v)
        clear a1 x0 q1 y1 y2 y3
        generalize hp1 : per0 f 1 = x1 at *
        generalize hq2 : orL (f 2) 256 = x2 at *
        go_wp2_with (first
          | (go_at_call 98; refine (KL.out _ P1.out).mono ?_; rintro e w' ⟨rfl, hw⟩; subst w'))
        have k1 := zah C49 H1.out.lt
        have k2 := zah C2 P1.out.lt
        haveI := zax wr
        refine zaq _ _ (show _ = [_, _, _, _, _, _, _, _, _, _, _, _, _] ++ [_] from rfl) (by kernel_rfl) (by kernel_rfl) (by kernel_rfl) ?_
        repeat (go_big_quiet_step ((first
          | (go_at_call 165; exact zaF (KO.out _)))))
        refine wpQuiet_nil ?_
        rintro _ ⟨wk, rfl⟩
        have H2 := hide (H1.out.next wk.below)
        have R2 := hide (R1.out.next wk.below)
        have B2 := hide (zgv B1.out S0.out wk.below)
        have f49 := H2.out.frozen 49
        have f93 := H2.out.frozen 93
        have c49 := H2.out.at 49 (by decide)
        have c93 := H2.out.at 93 (by decide)
        clear k1 k2 H1 R1 B1 KO KL C49 C2
        generalize wk.val = w4 at *
        have NE2 := hide NE.out
        go_wp2_with (first
          | (refine zaj fun w5 hw5 => ?_
             have H5 : Hid (HasF 208 w5 g3 288 (vrow f (accs f) (upN (per0 f) 1 (x1 * x2)))) := hide (by rw [hw5]; exact ((H2.out.set 49 _).set 93 _).ext (LZ.out _))
             have R5 : Hid (HasF 208 w5 s0 288 zV) := hide (by rw [hw5]; exact (R2.out.other _ _ NE.out).other _ _ NE.out)
             have B5 : Hid (Below s0 w w5) := hide (by rw [hw5]; exact zeM (zeM B2.out LE.out _ _) LE.out _ _)
             clear hw5 H2 R2 B2 f49 f93 c49 c93
             refine wpList_load_row rfl 208 (.tmp 3) rfl g3 rfl _ _ _ _ H5.out Tryz.underlying208 rfl (info_V _) ?_)
          | (refine wpList_store_row rfl 208 (.tmp 2) (.tmp 71) rfl s0 _ rfl rfl 208 _ R5.out (info_V _) (by rw [zai, zai]) (zea (N := 288) fun j _ => zkC f _ _ (j / 48) (j % 48)) ?_))
        refine bodyPost_ret (results_cell_row rfl _ _ s0 208 _ (0, 0) _ rfl (setRow_heap _ _ _ _ _ _ R5.out) Tryz.underlying208 rfl (info_V _)) rfl ?_
        exact ⟨_, PE.out, rfl, by rw [hs0]; exact below_setRow B5.out (Nat.le_refl _) _⟩
end Go.Proofs.YtdiidjehdginnaaGreatDoor.P22
