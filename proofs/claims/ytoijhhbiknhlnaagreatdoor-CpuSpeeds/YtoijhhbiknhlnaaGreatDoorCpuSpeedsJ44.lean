/- The program's processor: registers that are cut, and whether there is a machine. -/
import Derived.Test.YtoijhhbiknhlnaaGreatDoorCpuSpeedsJ43
namespace Go.Proofs.YtoijhhbiknhlnaaGreatDoor.L25
set_option maxHeartbeats 1000000
set_option maxRecDepth 20000
open A2 B4 C3 G6 I11 J23 K9 L24 M5 N8 O7 P22 R15 T10 V12 W13
open Go.RowKit
set_option linter.unusedVariables false
def cutR (R:Nat→Int):Nat→Int:=fun j=>if j=5 then R 5%65536 else R j%256
theorem zjZ (R:Nat→Int):GZ 20 (cutR R):=by
 refine ⟨fun k hk=>?_,?_⟩
 ·unfold cutR;rw [if_neg (by omega)];omega
 ·unfold cutR;rw [if_pos rfl];omega
theorem zAX (R:Nat→Int) (w:World):Calls Tryz.prog 19 #[.agg #[.int .i64 (R 0),.int .i64 (R 1),.int .i64 (R 2),.int .i64 (R 3),.int .i64 (R 4),.int .i64 (R 5)]] w fun e w'=>e=Ending.returned (.agg #[.int .i64 (R 0%256),.int .i64 (R 1%256),.int .i64 (R 2%256),.int .i64 (R 3%256),.int .i64 (R 4%256),.int .i64 (R 5%65536)])∧Below w.heap.size w w':=by
 go_enter Tryz.func19,Tryz.ntmps19;go_upto_region 1 with fail;refine under_name fun wa hwa=>?_
 obtain ⟨q1,q2,q3,bw⟩:=two_named hwa;have G1:=hide q1;have G2:=hide q2;have BW:=hide bw;obtain ⟨g,hg⟩:∃g,w.heap.size=g:=⟨_,rfl⟩
 obtain ⟨z,hz⟩:∃z,w.heap.size+1=z:=⟨_,rfl⟩
 have ZL:Hid (z<wa.heap.size∧w.heap.size≤z):=hide (by omega);have GL:Hid (g<wa.heap.size):=hide (by omega);rw [hz] at G2;rw [hz,hg];rw [hg] at G1;have GF:Hid (∀(x:World) (k:Nat),Below wa.heap.size wa x→x.cell? ⟨g,k,none⟩=#[.int .i64 (R 0),.int .i64 (R 1),.int .i64 (R 2),.int .i64 (R 3),.int .i64 (R 4),.int .i64 (R 5)][k]?):=hide (fun x k o=>cell_of_row x g k _ _ _ ((o.block g GL.out).trans G1.out));have ZF:Hid (∀(x:World),Below wa.heap.size wa x→x.heap[z]? = some (.cells #[.int .i64 0,.int .i64 0,.int .i64 0,.int .i64 0,.int .i64 0,.int .i64 0] 23 (0,0))):=hide (fun x o=>(o.block z ZL.out.1).trans G2.out);clear hwa q1 q2 q3 bw hg hz;refine zai (zbl [.pointer (some ⟨g,0,none⟩),.int .i64 (R 0),.int .i64 (R 0%256),.pointer (some ⟨g,1,none⟩),.int .i64 (R 1),.int .i64 (R 1%256),.pointer (some ⟨g,2,none⟩),.int .i64 (R 2),.int .i64 (R 2%256),.pointer (some ⟨g,3,none⟩),.int .i64 (R 3),.int .i64 (R 3%256),.pointer (some ⟨g,4,none⟩),.int .i64 (R 4),.int .i64 (R 4%256),.pointer (some ⟨g,5,none⟩),.int .i64 (R 5),.int .i64 (R 5%65536),.agg #[.int .i64 (R 0%256),.int .i64 (R 1%256),.int .i64 (R 2%256),.int .i64 (R 3%256),.int .i64 (R 4%256),.int .i64 (R 5%65536)],undef]) (fun dd ww=>(stgs [(fun x=>Below wa.heap.size wa x),(fun x=>x.heap[z]? = some (.cells #[.int .i64 (R 0%256),.int .i64 (R 1%256),.int .i64 (R 2%256),.int .i64 (R 3%256),.int .i64 (R 4%256),.int .i64 (R 5%65536)] 23 (0,0))∧Below w.heap.size w x)]) (cntD [19] dd) ww) _ (fun u=>by simp only [zat,Act.put,List.setIfInBounds_toArray,List.set_cons_succ,List.set_cons_zero,Nat.reduceAdd];rfl) (by kernel_rfl) (by kernel_rfl) (by kernel_rfl) (fun dn hd=>zaz hd ((Below.refl _ wa).drew)) ?_ ?_
 ·repeat' first|refine zas (fun u dn x hi hc hk hs=>?_) ?_|exact zax
  ·go_wp2_with fail;exact zab _ rfl rfl (zaa rfl hs)
  ·obtain ⟨⟨(h0:u 0=.pointer (some ⟨g,0,none⟩)),t0⟩,_⟩:=hk;simp only [h0];clear h0;have d19:=zag hc hi 19 60 (by kernel_rfl);have hn:cntD [19] dn=0:=by simp only [cntD,d19];rfl
   have hs1:=zae hn hs;have q:=(GF.out x 0 hs1).trans rfl;go_wp2_with fail;exact zab _ rfl rfl (zaa rfl hs)
  ·obtain ⟨⟨(h1:u 1=.int .i64 (R 0)),t1⟩,_⟩:=hk;simp only [h1];clear h1;have d19:=zag hc hi 19 60 (by kernel_rfl);have hn:cntD [19] dn=0:=by simp only [cntD,d19];rfl
   have hs1:=zae hn hs;have HS:=hide hs;clear hs hs1;go_wp2_with fail;refine (zaj _ _).mono ?_;rintro e x2 ⟨rfl,hw⟩;subst x2;go_wp2_with fail;exact zab _ rfl rfl (zaa rfl HS.out)
  ·go_wp2_with fail;exact zab _ rfl rfl (zaa rfl hs)
  ·obtain ⟨⟨(h3:u 3=.pointer (some ⟨g,1,none⟩)),t3⟩,_⟩:=hk;simp only [h3];clear h3;have d19:=zag hc hi 19 60 (by kernel_rfl);have hn:cntD [19] dn=0:=by simp only [cntD,d19];rfl
   have hs1:=zae hn hs;have q:=(GF.out x 1 hs1).trans rfl;go_wp2_with fail;exact zab _ rfl rfl (zaa rfl hs)
  ·obtain ⟨⟨(h4:u 4=.int .i64 (R 1)),t4⟩,⟨(h2:u 2=.int .i64 (R 0%256)),t2⟩,_⟩:=hk;simp only [h4];clear h4 h2;have d19:=zag hc hi 19 60 (by kernel_rfl);have hn:cntD [19] dn=0:=by simp only [cntD,d19];rfl
   have hs1:=zae hn hs;have HS:=hide hs;clear hs hs1;go_wp2_with fail;refine (zaj _ _).mono ?_;rintro e x2 ⟨rfl,hw⟩;subst x2;go_wp2_with fail;exact zab _ rfl rfl (zaa rfl HS.out)
  ·go_wp2_with fail;exact zab _ rfl rfl (zaa rfl hs)
  ·obtain ⟨⟨(h6:u 6=.pointer (some ⟨g,2,none⟩)),t6⟩,_⟩:=hk;simp only [h6];clear h6;have d19:=zag hc hi 19 60 (by kernel_rfl);have hn:cntD [19] dn=0:=by simp only [cntD,d19];rfl
   have hs1:=zae hn hs;have q:=(GF.out x 2 hs1).trans rfl;go_wp2_with fail;exact zab _ rfl rfl (zaa rfl hs)
  ·obtain ⟨⟨(h7:u 7=.int .i64 (R 2)),t7⟩,⟨(h5:u 5=.int .i64 (R 1%256)),t5⟩,_⟩:=hk;simp only [h7];clear h7 h5;have d19:=zag hc hi 19 60 (by kernel_rfl);have hn:cntD [19] dn=0:=by simp only [cntD,d19];rfl
   have hs1:=zae hn hs;have HS:=hide hs;clear hs hs1;go_wp2_with fail;refine (zaj _ _).mono ?_;rintro e x2 ⟨rfl,hw⟩;subst x2;go_wp2_with fail;exact zab _ rfl rfl (zaa rfl HS.out)
  ·go_wp2_with fail;exact zab _ rfl rfl (zaa rfl hs)
  ·obtain ⟨⟨(h9:u 9=.pointer (some ⟨g,3,none⟩)),t9⟩,_⟩:=hk;simp only [h9];clear h9;have d19:=zag hc hi 19 60 (by kernel_rfl);have hn:cntD [19] dn=0:=by simp only [cntD,d19];rfl
   have hs1:=zae hn hs;have q:=(GF.out x 3 hs1).trans rfl;go_wp2_with fail;exact zab _ rfl rfl (zaa rfl hs)
  ·obtain ⟨⟨(h10:u 10=.int .i64 (R 3)),t10⟩,⟨(h8:u 8=.int .i64 (R 2%256)),t8⟩,_⟩:=hk;simp only [h10];clear h10 h8;have d19:=zag hc hi 19 60 (by kernel_rfl);have hn:cntD [19] dn=0:=by simp only [cntD,d19];rfl
   have hs1:=zae hn hs;have HS:=hide hs;clear hs hs1;go_wp2_with fail;refine (zaj _ _).mono ?_;rintro e x2 ⟨rfl,hw⟩;subst x2;go_wp2_with fail;exact zab _ rfl rfl (zaa rfl HS.out)
  ·go_wp2_with fail;exact zab _ rfl rfl (zaa rfl hs)
  ·obtain ⟨⟨(h12:u 12=.pointer (some ⟨g,4,none⟩)),t12⟩,_⟩:=hk;simp only [h12];clear h12;have d19:=zag hc hi 19 60 (by kernel_rfl);have hn:cntD [19] dn=0:=by simp only [cntD,d19];rfl
   have hs1:=zae hn hs;have q:=(GF.out x 4 hs1).trans rfl;go_wp2_with fail;exact zab _ rfl rfl (zaa rfl hs)
  ·obtain ⟨⟨(h13:u 13=.int .i64 (R 4)),t13⟩,⟨(h11:u 11=.int .i64 (R 3%256)),t11⟩,_⟩:=hk;simp only [h13];clear h13 h11;have d19:=zag hc hi 19 60 (by kernel_rfl);have hn:cntD [19] dn=0:=by simp only [cntD,d19];rfl
   have hs1:=zae hn hs;have HS:=hide hs;clear hs hs1;go_wp2_with fail;refine (zaj _ _).mono ?_;rintro e x2 ⟨rfl,hw⟩;subst x2;go_wp2_with fail;exact zab _ rfl rfl (zaa rfl HS.out)
  ·go_wp2_with fail;exact zab _ rfl rfl (zaa rfl hs)
  ·obtain ⟨⟨(h15:u 15=.pointer (some ⟨g,5,none⟩)),t15⟩,_⟩:=hk;simp only [h15];clear h15;have d19:=zag hc hi 19 60 (by kernel_rfl);have hn:cntD [19] dn=0:=by simp only [cntD,d19];rfl
   have hs1:=zae hn hs;have q:=(GF.out x 5 hs1).trans rfl;go_wp2_with fail;exact zab _ rfl rfl (zaa rfl hs)
  ·obtain ⟨⟨(h16:u 16=.int .i64 (R 5)),t16⟩,⟨(h14:u 14=.int .i64 (R 4%256)),t14⟩,_⟩:=hk;simp only [h16];clear h16 h14;have d19:=zag hc hi 19 60 (by kernel_rfl);have hn:cntD [19] dn=0:=by simp only [cntD,d19];rfl
   have hs1:=zae hn hs;have HS:=hide hs;clear hs hs1;go_wp2_with fail;refine (zbd _ _).mono ?_;rintro e x2 ⟨rfl,hw⟩;subst x2;go_wp2_with fail;exact zab _ rfl rfl (zaa rfl HS.out)
  ·obtain ⟨⟨(h2:u 2=.int .i64 (R 0%256)),t2⟩,⟨(h5:u 5=.int .i64 (R 1%256)),t5⟩,⟨(h8:u 8=.int .i64 (R 2%256)),t8⟩,⟨(h11:u 11=.int .i64 (R 3%256)),t11⟩,⟨(h14:u 14=.int .i64 (R 4%256)),t14⟩,⟨(h17:u 17=.int .i64 (R 5%65536)),t17⟩,_⟩:=hk;simp only [h2,h5,h8,h11,h14,h17];clear h2 h5 h8 h11 h14 h17;go_wp2_with fail;exact zab _ rfl rfl (zaa rfl hs)
  ·obtain ⟨⟨(h18:u 18=.agg #[.int .i64 (R 0%256),.int .i64 (R 1%256),.int .i64 (R 2%256),.int .i64 (R 3%256),.int .i64 (R 4%256),.int .i64 (R 5%65536)]),t18⟩,⟨(h17:u 17=.int .i64 (R 5%65536)),t17⟩,⟨(h0:u 0=.pointer (some ⟨g,0,none⟩)),t0⟩,⟨(h1:u 1=.int .i64 (R 0)),t1⟩,⟨(h2:u 2=.int .i64 (R 0%256)),t2⟩,⟨(h3:u 3=.pointer (some ⟨g,1,none⟩)),t3⟩,⟨(h4:u 4=.int .i64 (R 1)),t4⟩,⟨(h5:u 5=.int .i64 (R 1%256)),t5⟩,⟨(h6:u 6=.pointer (some ⟨g,2,none⟩)),t6⟩,⟨(h7:u 7=.int .i64 (R 2)),t7⟩,⟨(h8:u 8=.int .i64 (R 2%256)),t8⟩,⟨(h9:u 9=.pointer (some ⟨g,3,none⟩)),t9⟩,⟨(h10:u 10=.int .i64 (R 3)),t10⟩,⟨(h11:u 11=.int .i64 (R 3%256)),t11⟩,⟨(h12:u 12=.pointer (some ⟨g,4,none⟩)),t12⟩,⟨(h13:u 13=.int .i64 (R 4)),t13⟩,⟨(h14:u 14=.int .i64 (R 4%256)),t14⟩,⟨(h15:u 15=.pointer (some ⟨g,5,none⟩)),t15⟩,⟨(h16:u 16=.int .i64 (R 5)),t16⟩,_,_,_⟩:=hk;simp only [h18];clear h18 h17 h0 h1 h2 h3 h4 h5 h6 h7 h8 h9 h10 h11 h12 h13 h14 h15 h16;have d19:=hi;have hn:cntD [19] dn=0:=by simp only [cntD,d19];rfl
   have hs1:=zae hn hs;have hn2:cntD [19] (updD dn 19)=1:=by show (if updD dn 19 19=true then 1 else 0)+0=1;rw [zav];rfl
   have HN2:=hide hn2;clear hn hn2;have H2:=hide ((fun h:Below wa.heap.size wa x=>show (fun x=>x.heap[z]? = some (.cells #[.int .i64 (R 0%256),.int .i64 (R 1%256),.int .i64 (R 2%256),.int .i64 (R 3%256),.int .i64 (R 4%256),.int .i64 (R 5%65536)] 23 (0,0))∧Below w.heap.size w x) (x.setRow z #[.int .i64 (R 0%256),.int .i64 (R 1%256),.int .i64 (R 2%256),.int .i64 (R 3%256),.int .i64 (R 4%256),.int .i64 (R 5%65536)]) from ⟨setRow_heap _ _ _ _ _ _ (ZF.out x h),below_setRow (zar BW.out h) ZL.out.2 _⟩) hs1);refine wpList_store_row rfl 23 (.tmp 2) (.tmp 21) rfl z _ rfl rfl 23 _ (ZF.out x hs1) (by kernel_rfl) rfl (by kernel_rfl) ?_;exact zab _ rfl rfl (zaE HN2.out H2.out)
 rintro u dn x hall hs hv;clear hv;have hn:cntD [19] dn=1:=by show (if dn 19=true then 1 else 0)+0=1;rw [hall 19 (by decide)];rfl
 have hs:=zae hn hs;clear hn hall;obtain ⟨r1,r2⟩:x.heap[z]? = some (.cells #[.int .i64 (R 0%256),.int .i64 (R 1%256),.int .i64 (R 2%256),.int .i64 (R 3%256),.int .i64 (R 4%256),.int .i64 (R 5%65536)] 23 (0,0))∧Below w.heap.size w x:=hs;have R1:=hide r1;have R2:=hide r2;clear r1 r2;go_wp2;exact bodyPost_ret (results_cell_row rfl _ _ z _ _ _ _ rfl R1.out Tryz.underlying23 rfl (by kernel_rfl)) rfl ⟨rfl,R2.out⟩
theorem missing_is {w:World} {b v c d:Nat} {bs:List Int} {Z:Nat→Nat→Int} (h:HasP w b v c d bs Z) (g:∀k,GZ k (Z k)):Calls Tryz.prog 17 #[.pointer (some ⟨b,0,none⟩)] w fun e w'=>e=Ending.returned (.bool false)∧HasP w' b v c d bs Z∧OnlyE (EX b v) w w':=by
 have K:=hide (ztY h (zkH g) (-1) (by decide));clear h g;go_enter Tryz.func17,Tryz.ntmps17;go_wp2_with (go_at_call 28;refine K.out.mono ?_;rintro e w1 ⟨rfl,h1,o1⟩;have H1:=hide h1;have O1:=hide o1;clear h1 o1 K);go_ret;exact ⟨rfl,H1.out,O1.out⟩
end Go.Proofs.YtoijhhbiknhlnaaGreatDoor.L25
