/- Texts put together. -/
import Derived.Test.YtoijhhbiknhlnaaGreatDoorCpuSpeedsJ01
import Derived.Test.YtoijhhbiknhlnaaGreatDoorProg
import Derived.RegionTactic
import Derived.Deep.RegionLaw
import Derived.Test.YtoijhhbiknhlnaaGreatDoorRows
import Derived.Laws.CopyOwn
import Derived.Test.YtoijhhbiknhlnaaGreatDoorCpuSpeedsJ02
import Derived.Stop.Asserts
namespace Go.Proofs.YtoijhhbiknhlnaaGreatDoor.C3
set_option maxHeartbeats 4000000
set_option maxRecDepth 20000
open Go.RowKit
set_option linter.unusedVariables false
theorem Tryz.info5:(Tryz.prog.info? 5).map (fun i=>(i.zero,i.size,i.bytes))=some (some (.int .u8 0),1,1):=by kernel_rfl
theorem zlB (n:Nat) (hn:n≤281474976710656) (w:World):
  (Instr.makeSlice 66 (.int .i64 (n:Int)) (.int .i64 (n:Int))).run Tryz.prog w=.ok (.slice (some ⟨w.heap.size,0,none⟩) n n) (w.alloc (.cells ((List.replicate n (0:Int)).map (Value.int .u8)).toArray 5)):=by
 obtain ⟨i,hi,hz⟩:=Option.map_eq_some_iff.1 Tryz.info5;simp only [Prod.mk.injEq] at hz;exact zmj Tryz.underlying66 hi hz.1 hz.2.1 hz.2.2 n hn w
theorem zuS (x:Int):0≤IntKind.u8.wrap x∧IntKind.u8.wrap x<256:=by
 have e:IntKind.u8.wrap x=x%256:=by rfl
 rw [e];omega
end Go.Proofs.YtoijhhbiknhlnaaGreatDoor.C3
namespace Go.Proofs.YtoijhhbiknhlnaaGreatDoor.L24
set_option maxHeartbeats 4000000
set_option maxRecDepth 20000
open C3
open Go.RowKit
set_option linter.unusedVariables false
theorem zuT (p:Nat) (hp:p≤1000) (w:World):Calls Tryz.prog 66 #[.int .i64 (p:Int),.slice none 0 0] w fun e w'=>∃bs:List Int,bs.length=p*8192∧e=Ending.returned (.slice (some ⟨w.heap.size,0,none⟩) (p*8192) (p*8192))∧Bytes 5 w' w.heap.size bs∧Below w.heap.size w w':=by
 obtain ⟨n,hn⟩:∃n,p*8192=n:=⟨_,rfl⟩
 have en:(p:Int)*8192=(n:Int):=by omega
 have hm:=zlB n (by omega) w;obtain ⟨w1,hw1⟩:∃w1,w1=(w.alloc (.cells ((List.replicate n (0:Int)).map (Value.int .u8)).toArray 5)):=⟨_,rfl⟩
 have B1:Hid (Bytes 5 w1 w.heap.size (List.replicate n 0)):=by subst hw1;exact hide Bytes.made
 have L1:Hid (Below w.heap.size w w1):=by subst hw1;exact hide ((Below.refl _ w).alloc (Nat.le_refl _) _)
 have n1:n≤8192000:=by omega
 rw [hn];rw [←hw1] at hm;clear hw1 hn;go_enter Tryz.func66,Tryz.ntmps66;go_wp2_with fail;go_loopw [6] (fun si wr=>∃(j:Nat) (bs:List Int),j≤n∧si=.int .i64 (j:Int)∧bs.length=n∧Bytes 5 wr w.heap.size bs∧Below w.heap.size w wr) (fun si _=>n-(intOf si).toNat)
 case atStart=>exact ⟨0,_,by omega,rfl,by simp,B1.out,L1.out⟩
 case round=>
  obtain ⟨j,bs,hj,rfl,hl,hb,bel⟩:=hrel
  by_cases h:j<n
  ·obtain ⟨hc,c0,c1⟩:=hb.cell j (by omega);have hf:=hb.free j;have HB:=hide hb;have BL:=hide bel;clear hb bel;go_wp2_with fail;go_roundw
   case rel=>exact ⟨j+1,_,by omega,by go_num,by simpa using hl,HB.out.put j _ (by first|exact zuS _|skip),BL.out.setCell (Nat.le_refl _) _⟩
   case measure=>simp [intOf];omega
  ·obtain rfl:j=n:=by omega
   have HB:=hide hb;have BL:=hide bel;clear hb bel;go_wp2_with (first|(refine wpList_copy_splice rfl (.tmp 25) (.tmp 26) 66 66 rfl 5 Tryz.underlying66 (by kernel_rfl) (some ⟨w.heap.size,0,none⟩) none j j 0 0 rfl rfl w.heap.size 0 (bs.map (Value.int .u8)) 5 HB.out.1 [] (by simp) (fun h=>absurd h (by simp)) (by simp) (by simp) w.heap.size w BL.out (Nat.le_refl _) ?_;intro w5 h5 b5));go_ret;refine ⟨bs,hl,rfl,⟨?_,HB.out.2⟩,b5⟩;have h6:=h5.out;rw [show splice (bs.map (Value.int .u8)) 0 []=bs.map (Value.int .u8) by simp [splice]] at h6;exact h6
end Go.Proofs.YtoijhhbiknhlnaaGreatDoor.L24
namespace Go.Proofs.YtoijhhbiknhlnaaGreatDoor.C3
set_option maxHeartbeats 4000000
set_option maxRecDepth 20000
open Go.RowKit Go.Extern.Stop Go.Stop Go.Extern
set_option linter.unusedVariables false
theorem zxZ (t:Value) (w:World):
  Calls Tryz.prog 116 #[.nilIface,t] w fun e w'=>e=.returned (.bool false)∧w'=w:=by
 go_enter Tryz.func116,Tryz.ntmps116;go_wp2;go_ret;exact ⟨rfl,rfl⟩
theorem zkz (t:Addr) (w:World):(ReflectliteValue.unpack (.iface 176 (.pointer (some t)))).run Tryz.prog w
 = .ok (.agg #[.pointer (some ⟨8,176,none⟩),.pointer (some ⟨w.heap.size,0,none⟩),.int .u64 150]) (w.alloc (.cells #[.pointer (some t)] 176)):=by kernel_rfl
theorem zrM (a:Addr) (w:World):(ReflectliteValue.methodAny (ReflectliteValue.valueError "reflectlite.Value.Type" 0) (fun t _ _ _=>ReflectliteType.toType t) #[.agg #[.pointer (some ⟨8,176,none⟩),.pointer (some a),.int .u64 150]]).run Tryz.prog w
 = .ok (.iface 250 (.agg #[.pointer (some ⟨8,176,none⟩)])) w:=by kernel_rfl
theorem ziu (h:Value) (w:World):(Go.method 397 250 (.agg #[h]) "Kind").run Tryz.prog w=.ok (217,h) w:=by kernel_rfl
theorem ziv (h:Value) (w:World):(Go.method 397 250 (.agg #[h]) "Elem").run Tryz.prog w=.ok (232,.agg #[h]) w:=by kernel_rfl
theorem zeU (h:Value) (w:World):(Go.method 397 250 (.agg #[h]) "Implements").run Tryz.prog w=.ok (233,.agg #[h]) w:=by kernel_rfl
theorem zen (h:Value) (w:World):(Go.method 397 250 (.agg #[h]) "AssignableTo").run Tryz.prog w=.ok (230,.agg #[h]) w:=by kernel_rfl
theorem zgT (p:Option Addr) (w:World):(Go.method 397 216 (.pointer p) "Unwrap").run Tryz.prog w=.ok (228,.pointer p) w:=by kernel_rfl
theorem zrN (w:World):((ReflectliteType.abiMethod fun t=>(fun a:Nat=>Value.int IntKind.u8 (a:Int)) <$> Rtype.kind t) #[.pointer (some ⟨8,176,none⟩)]).run Tryz.prog w=.ok (.int .u8 22) w:=by kernel_rfl
theorem zrO (w:World):((ReflectliteType.abiMethod fun t=>(fun a:Nat=>Value.int IntKind.u8 (a:Int)) <$> Rtype.kind t) #[.pointer (some ⟨8,124,none⟩)]).run Tryz.prog w=.ok (.int .u8 2) w:=by kernel_rfl
theorem zrP (w:World):(ReflectliteType.method ReflectliteType.elem #[.agg #[.pointer (some ⟨8,176,none⟩)]]).run Tryz.prog w=.ok (.iface 250 (.agg #[.pointer (some ⟨8,124,none⟩)])) w:=by kernel_rfl
theorem ziw (w:World):(ReflectliteType.relation "Implements" ReflectliteType.implements_ #[.agg #[.pointer (some ⟨8,124,none⟩)],.iface 250 (.agg #[.pointer (some ⟨8,174,none⟩)])]).run Tryz.prog w=.ok (.bool true) w:=by kernel_rfl
theorem zmI (v:Value) (w:World):(ReflectliteType.typeOf #[.iface 216 v]).run Tryz.prog w=.ok (.iface 250 (.agg #[.pointer (some ⟨8,216,none⟩)])) w:=by kernel_rfl
theorem zmJ (v:Value) (w:World):(ReflectliteType.typeOf #[.iface 124 v]).run Tryz.prog w=.ok (.iface 250 (.agg #[.pointer (some ⟨8,124,none⟩)])) w:=by kernel_rfl
theorem zmK (w:World):(ReflectliteType.relation "AssignableTo" ReflectliteType.assignableTo #[.agg #[.pointer (some ⟨8,216,none⟩)],.iface 250 (.agg #[.pointer (some ⟨8,124,none⟩)])]).run Tryz.prog w=.ok (.bool false) w:=by kernel_rfl
theorem zmL (w:World):(ReflectliteType.relation "AssignableTo" ReflectliteType.assignableTo #[.agg #[.pointer (some ⟨8,124,none⟩)],.iface 250 (.agg #[.pointer (some ⟨8,124,none⟩)])]).run Tryz.prog w=.ok (.bool true) w:=by kernel_rfl
theorem zkA (c:Int) (w:World):(ReflectliteValue.unpack (.iface 124 (.int .i64 c))).run Tryz.prog w
 = .ok (.agg #[.pointer (some ⟨8,124,none⟩),.pointer (some ⟨w.heap.size,0,none⟩),.int .u64 130]) (w.alloc (.cells #[.int .i64 c] 124)):=by kernel_rfl
theorem zjA (z:Sem Value) (f:TypeId→Addr→Nat→Nat→Sem Value) (a:Addr) (W:World):
 (ReflectliteValue.method z f #[.agg #[.pointer (some ⟨8,176,none⟩),.pointer (some a),.int .u64 150]]).run Tryz.prog W=(f 176 a 150 22).run Tryz.prog W:=by kernel_rfl
theorem zrQ (a p:Addr) (W:World) (ha:W.cell? a=some (.pointer (some p))):
  (ReflectliteValue.method (ReflectliteValue.valueError "reflectlite.Value.IsNil" 0) ReflectliteValue.isNil #[.agg #[.pointer (some ⟨8,176,none⟩),.pointer (some a),.int .u64 150]]).run Tryz.prog W=.ok (.bool false) W:=by
 rw [zjA];simp [ReflectliteValue.isNil,loadVar,isAgg,underlying,Tryz.underlying176,ha,Result.andThen]
theorem zoJ (w:World):(Rtype.elem? 176).run Tryz.prog w=.ok (some 124) w:=by kernel_rfl
theorem rl_mk (p:Addr) (w:World):(ReflectliteValue.mk 124 p ReflectliteValue.flagAddr).run Tryz.prog w=.ok (.agg #[.pointer (some ⟨8,124,none⟩),.pointer (some p),.int .u64 386]) w:=by kernel_rfl
theorem zrR (a p:Addr) (W:World) (ha:W.cell? a=some (.pointer (some p))):
  (ReflectliteValue.method (ReflectliteValue.valueError "reflectlite.Value.Elem" 0) ReflectliteValue.elem #[.agg #[.pointer (some ⟨8,176,none⟩),.pointer (some a),.int .u64 150]]).run Tryz.prog W
   = .ok (.agg #[.pointer (some ⟨8,124,none⟩),.pointer (some p),.int .u64 386]) W:=by
 rw [zjA];simp [ReflectliteValue.elem,loadVar,isAgg,underlying,Tryz.underlying176,ha,Result.andThen,zoJ,rl_mk]
theorem zuU (ta b:Addr) (W:World):
 (ReflectliteValue.set #[.agg #[.pointer (some ⟨8,124,none⟩),.pointer (some ta),.int .u64 386],.agg #[.pointer (some ⟨8,124,none⟩),.pointer (some b),.int .u64 130]]).run Tryz.prog W
  = (do let v ←loadVar 124 b;storeVar 124 ta v;pure (.tuple #[]):Sem Value).run Tryz.prog W:=by kernel_rfl
theorem zya (ta b:Addr) (c:Int) (old:Value) (W:World) (hb:W.cell? b=some (.int .i64 c)) (ht:W.cell? ta=some old) (hf:W.frozen? ta=false):
  (ReflectliteValue.set #[.agg #[.pointer (some ⟨8,124,none⟩),.pointer (some ta),.int .u64 386],.agg #[.pointer (some ⟨8,124,none⟩),.pointer (some b),.int .u64 130]]).run Tryz.prog W
   = .ok (.tuple #[]) (W.setCell ta (.int .i64 c)):=by
 rw [zuU];simp [loadVar,isAgg,underlying,Tryz.underlying124,hb,Result.andThen,storeVar,Value.cells,storeCells,Addr.add];rw [run_store Tryz.prog W ta _ _ (by rfl)];simp [ht,hf]
theorem zoK (b:Nat) (c:Int) (w:World) (he:w.cell? ⟨b,1,none⟩=some (.iface 124 (.int .i64 c))):
  Calls Tryz.prog 228 #[.pointer (some ⟨b,0,none⟩)] w fun ev w'=>ev=.returned (.iface 124 (.int .i64 c))∧w'=w:=by
 go_enter Tryz.func228,Tryz.ntmps228;go_wp2;go_ret;exact ⟨rfl,rfl⟩
theorem zrS (b:Nat) (c:Int) (t:Addr) (old:Value) (w:World) (hg:w.cell? ⟨4,0,none⟩=some (.iface 250 (.agg #[.pointer (some ⟨8,174,none⟩)])))
  (he:w.cell? ⟨b,1,none⟩=some (.iface 124 (.int .i64 c))) (ht0:w.cell? t=some old) (hf0:w.frozen? t=false):
  Calls Tryz.prog 116 #[.iface 216 (.pointer (some ⟨b,0,none⟩)),.iface 176 (.pointer (some t))] w fun ev w'=>ev=.returned (.bool true)∧w'=((((w.alloc (.cells #[.pointer (some t)] 176)).alloc (.cells #[.pointer (some ⟨8,176,none⟩),.pointer (some ⟨w.heap.size,0,none⟩),.int .u64 150] 207)).alloc (.cells #[.pointer (some ⟨8,176,none⟩),.pointer (some ⟨w.heap.size,0,none⟩),.int .u64 150] 207)).alloc (.cells #[.int .i64 c] 124)).setCell t (.int .i64 c):=by
 have x1:=@run_callFunc_extern Tryz.prog 155 _ (fun args=>ReflectliteValue.unpack (args.getD 0 (.tuple #[]))) Tryz.func155 (by kernel_rfl) (by kernel_rfl) (by kernel_rfl) (by kernel_rfl);have x2:=@run_callFunc_extern Tryz.prog 156 _ (ReflectliteValue.methodAny (ReflectliteValue.valueError "reflectlite.Value.Type" 0) (fun t _ _ _=>ReflectliteType.toType t)) Tryz.func156 (by kernel_rfl) (by kernel_rfl) (by kernel_rfl) (by kernel_rfl);have x3:=@run_callFunc_extern Tryz.prog 157 _ (ReflectliteValue.method (ReflectliteValue.valueError "reflectlite.Value.IsNil" 0) ReflectliteValue.isNil) Tryz.func157 (by kernel_rfl) (by kernel_rfl) (by kernel_rfl) (by kernel_rfl);have x4:=@run_callFunc_extern Tryz.prog 217 _ (ReflectliteType.abiMethod fun t=>do pure (.int .u8 (←Rtype.kind t))) Tryz.func217 (by kernel_rfl) (by kernel_rfl) (by kernel_rfl) (by kernel_rfl);have x5:=@run_callFunc_extern Tryz.prog 232 _ (ReflectliteType.method ReflectliteType.elem) Tryz.func232 (by kernel_rfl) (by kernel_rfl) (by kernel_rfl) (by kernel_rfl);have x6:=@run_callFunc_extern Tryz.prog 233 _ (ReflectliteType.relation "Implements" ReflectliteType.implements_) Tryz.func233 (by kernel_rfl) (by kernel_rfl) (by kernel_rfl) (by kernel_rfl);have x7:=@run_callFunc_extern Tryz.prog 185 _ ReflectliteType.typeOf Tryz.func185 (by kernel_rfl) (by kernel_rfl) (by kernel_rfl) (by kernel_rfl);have x8:=@run_callFunc_extern Tryz.prog 230 _ (ReflectliteType.relation "AssignableTo" ReflectliteType.assignableTo) Tryz.func230 (by kernel_rfl) (by kernel_rfl) (by kernel_rfl) (by kernel_rfl);have x9:=@run_callFunc_extern Tryz.prog 186 _ (ReflectliteValue.method (ReflectliteValue.valueError "reflectlite.Value.Elem" 0) ReflectliteValue.elem) Tryz.func186 (by kernel_rfl) (by kernel_rfl) (by kernel_rfl) (by kernel_rfl);have x10:=@run_callFunc_extern Tryz.prog 187 _ ReflectliteValue.set Tryz.func187 (by kernel_rfl) (by kernel_rfl) (by kernel_rfl) (by kernel_rfl);have y1:=zmI;have y2:=zmJ;have y3:=zen;have y4:=zmK;have y5:=zmL;have y6:=zkz;have y7:=zrM;have y8:=ziu;have y9:=ziv;have y10:=zeU;have y11:=zrN;have y12:=zrO;have y13:=zrP;have y14:=ziw;have y15:=zkA;have y16:=zgT;have z1:=@run_typeAssert_lacksB Tryz.prog 216 255 .nilIface _ Tryz.underlying255 (by kernel_rfl) (by kernel_rfl);have z2:=@run_typeAssert_hasB Tryz.prog 216 258 _ Tryz.underlying258 (by kernel_rfl);have hlt:4<w.heap.size:=by
  rcases Nat.lt_or_ge 4 w.heap.size with h|h
  ·exact h
  ·simp [World.cell?,Array.getElem?_eq_none h] at hg
 have htl:t.block<w.heap.size:=by
  rcases Nat.lt_or_ge t.block w.heap.size with h|h
  ·exact h
  ·simp [World.cell?,Array.getElem?_eq_none h] at ht0
 have hbl:b<w.heap.size:=by
  rcases Nat.lt_or_ge b w.heap.size with h|h
  ·exact h
  ·simp [World.cell?,Array.getElem?_eq_none h] at he
 have n8:=zrQ ⟨w.heap.size,0,none⟩ t ((w.alloc (.cells #[.pointer (some t)] 176)).alloc (.cells #[.pointer (some ⟨8,176,none⟩),.pointer (some ⟨w.heap.size,0,none⟩),.int .u64 150] 207)) (by simp);have hg2:((w.alloc (.cells #[.pointer (some t)] 176)).alloc (.cells #[.pointer (some ⟨8,176,none⟩),.pointer (some ⟨w.heap.size,0,none⟩),.int .u64 150] 207)).cell? ⟨4,0,none⟩=some (.iface 250 (.agg #[.pointer (some ⟨8,174,none⟩)])):=by
  rw [World.cell?_alloc_lt _ _ ⟨4,0,none⟩ (by first|(simp;done)|(simp;omega)),World.cell?_alloc_lt _ _ ⟨4,0,none⟩ hlt];exact hg
 have he3:(((w.alloc (.cells #[.pointer (some t)] 176)).alloc (.cells #[.pointer (some ⟨8,176,none⟩),.pointer (some ⟨w.heap.size,0,none⟩),.int .u64 150] 207)).alloc (.cells #[.pointer (some ⟨8,176,none⟩),.pointer (some ⟨w.heap.size,0,none⟩),.int .u64 150] 207)).cell? ⟨b,1,none⟩=some (.iface 124 (.int .i64 c)):=by
  rw [World.cell?_alloc_lt _ _ ⟨b,1,none⟩ (by first|(simp;done)|(simp;omega)),World.cell?_alloc_lt _ _ ⟨b,1,none⟩ (by first|(simp;done)|(simp;omega)),World.cell?_alloc_lt _ _ ⟨b,1,none⟩ hbl];exact he
 have cu:=hide (zoK b c (((w.alloc (.cells #[.pointer (some t)] 176)).alloc (.cells #[.pointer (some ⟨8,176,none⟩),.pointer (some ⟨w.heap.size,0,none⟩),.int .u64 150] 207)).alloc (.cells #[.pointer (some ⟨8,176,none⟩),.pointer (some ⟨w.heap.size,0,none⟩),.int .u64 150] 207)) he3);have el:=zrR ⟨w.heap.size,0,none⟩ t (((w.alloc (.cells #[.pointer (some t)] 176)).alloc (.cells #[.pointer (some ⟨8,176,none⟩),.pointer (some ⟨w.heap.size,0,none⟩),.int .u64 150] 207)).alloc (.cells #[.pointer (some ⟨8,176,none⟩),.pointer (some ⟨w.heap.size,0,none⟩),.int .u64 150] 207)) (by rw [World.cell?_alloc_lt _ _ ⟨w.heap.size,0,none⟩ (by first|(simp;done)|(simp;omega))];simp);have st:=zya t ⟨w.heap.size+1+1+1,0,none⟩ c old ((((w.alloc (.cells #[.pointer (some t)] 176)).alloc (.cells #[.pointer (some ⟨8,176,none⟩),.pointer (some ⟨w.heap.size,0,none⟩),.int .u64 150] 207)).alloc (.cells #[.pointer (some ⟨8,176,none⟩),.pointer (some ⟨w.heap.size,0,none⟩),.int .u64 150] 207)).alloc (.cells #[.int .i64 c] 124))
  (by rw [World.cell?_alloc_at _ _ _ _ (by simp)];rfl)
  (by rw [World.cell?_alloc_lt _ _ t (by first|(simp;done)|(simp;omega)),World.cell?_alloc_lt _ _ t (by first|(simp;done)|(simp;omega)),World.cell?_alloc_lt _ _ t (by first|(simp;done)|(simp;omega)),World.cell?_alloc_lt _ _ t htl];exact ht0)
  (by rw [World.frozen?_alloc_old _ _ t (by first|(simp;done)|(simp;omega)),World.frozen?_alloc_old _ _ t (by first|(simp;done)|(simp;omega)),World.frozen?_alloc_old _ _ t (by first|(simp;done)|(simp;omega)),World.frozen?_alloc_old _ _ t (Nat.ne_of_lt htl)];exact hf0)
 go_enter Tryz.func116,Tryz.ntmps116;go_wp2;refine wp_loop_rounds 2 ?_;rw [rounds_succ];go_wp2_with (first|(go_at_call 228;refine cu.out.mono ?_;rintro e w' ⟨rfl,rfl⟩));rw [rounds_succ];go_wp2;go_ret;exact ⟨rfl,rfl⟩
end Go.Proofs.YtoijhhbiknhlnaaGreatDoor.C3
