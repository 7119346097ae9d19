/- Every instruction but CSL and CSH keeps the speed. -/
import Derived.Test.YtoijhhbiknhlnaaGreatDoorCpuSpeedsJ45
namespace Go.Proofs.YtoijhhbiknhlnaaGreatDoor.L25
set_option maxRecDepth 20000
open A2 B4 C3 G6 I11 J23 K9 L24 M5 N8 O7 P22 R15 T10 V12 W13
open Go.RowKit
set_option linter.unusedVariables false
theorem zeu (Z:Nat→Nat→Int) (k:Nat) (x:Int):setR Z k x 21=Z 21:=rfl
theorem zwT (Z:Nat→Nat→Int) (n:Int):cyc Z n 21=Z 21:=rfl
theorem k_rS (Z:Nat→Nat→Int) (a:Int):rS Z a 21=Z 21:=zeq _ _ _ (by decide)
theorem k_wS (Z:Nat→Nat→Int) (a y:Int):wS Z a y 21=Z 21:=zkJ _ _ _ _ (by decide)
theorem znC (Z:Nat→Nat→Int) (k:Nat) (x:Int):ldS Z k x 21=Z 21:=rfl
theorem k_mS (I:Nat→Int) (Z:Nat→Nat→Int):mS I Z 21=Z 21:=by
 unfold mS;split
 ·rfl
 split
 ·rfl
 ·exact k_rS _ _
theorem ztu (Z:Nat→Nat→Int) (op a m:Int):rkS Z op a m 21=Z 21:=rfl
theorem ztv (bs:List Int) (I:Nat→Int) (op:Int) (Z:Nat→Nat→Int):gaS bs I op Z 21=Z 21:=by
 unfold gaS;rw [zeu,ztu,k_mS]
theorem ztw (bs:List Int) (I:Nat→Int) (op:Int) (Z:Nat→Nat→Int):gtS bs I op Z 21=Z 21:=by
 unfold gtS;rw [k_wS,ztu,k_rS];unfold gtZ;rw [zwT,k_mS]
theorem znD (bs:List Int) (I:Nat→Int) (op a:Int) (Z:Nat→Nat→Int):weS bs I op a Z 21=Z 21:=by
 unfold weS;rw [ztu,k_mS]
theorem k_wsS (bs:List Int) (I:Nat→Int) (op a:Int) (Z:Nat→Nat→Int):wsS bs I op a Z 21=Z 21:=by
 unfold wsS;rw [zeu,znD]
theorem zBo (I:Nat→Int) (r:Int) (Z:Nat→Nat→Int):chS I r Z 21=Z 21:=by
 unfold chS;split
 ·rfl
 ·exact k_wS _ _ _
theorem zkj (bs:List Int) (I:Nat→Int) (op:Int) (Z:Nat→Nat→Int):caS bs I op Z 21=Z 21:=by
 unfold caS;rw [zBo,ztu,k_mS]
theorem zeJ (bs:List Int) (I:Nat→Int) (k:Int) (on:Bool) (Z:Nat→Nat→Int):cbS bs I k on Z 21=Z 21:=by
 unfold cbS;rw [zBo,k_mS]
theorem ztx (op:Int) (k:Nat) (Z:Nat→Nat→Int):inS op k Z 21=Z 21:=rfl
theorem zBp (I:Nat→Int) (Z:Nat→Nat→Int):gfS I Z 21=Z 21:=rfl
theorem zde (I:Nat→Int) (on asked:Bool) (Z:Nat→Nat→Int):brS I on asked Z 21=Z 21:=by
 unfold brS;split<;>rfl
theorem zkY (Z:Nat→Nat→Int) (y:Int):psS Z y 21=Z 21:=by
 unfold psS;rw [zeu,k_wS]
theorem zwU (Z:Nat→Nat→Int) (x:Int):pwS Z x 21=Z 21:=by
 unfold pwS;rw [zkY,zkY]
theorem zkk (Z:Nat→Nat→Int):plS Z 21=Z 21:=by
 unfold plS;rw [k_rS];rfl
theorem k_jsS (I:Nat→Int) (Z:Nat→Nat→Int):jsS I Z 21=Z 21:=by
 unfold jsS;rw [zeu,zwU]
theorem k_bsS (I:Nat→Int) (Z:Nat→Nat→Int):bsS I Z 21=Z 21:=by
 unfold bsS;rw [zBp,zwU]
theorem k_rsS (bs:List Int) (Z:Nat→Nat→Int):rsS bs Z 21=Z 21:=by
 unfold rsS;rw [zeu,zkk,zkk]
theorem zBq (bs:List Int) (Z:Nat→Nat→Int):riZ bs Z 21=Z 21:=by
 unfold riZ;rw [zeu,zkk]
theorem k_riS (bs:List Int) (Z:Nat→Nat→Int):riS bs Z 21=Z 21:=by
 unfold riS;rw [zeu,zkk,zkk,zBq]
theorem k_pS (Z:Nat→Nat→Int) (x y:Int):pS Z x y 21=Z 21:=by
 unfold pS;rw [k_rS,k_rS]
theorem k_enS (bs:List Int) (Z:Nat→Nat→Int) (vec back fl:Int):enS bs Z vec back fl 21=Z 21:=by
 unfold enS;rw [zeu,k_pS];unfold enZ;rw [zeu,zkY,zwU]
theorem k_bkS (bs:List Int) (Z:Nat→Nat→Int):bkS bs Z 21=Z 21:=k_enS _ _ _ _ _
theorem zwV (p:Int) (I:Nat→Int) (Z:Nat→Nat→Int):stS p I Z 21=Z 21:=zbC (by decide) _ _ _
theorem zBr (bs:List Int) (k fr tu:Int) (Z:Nat→Nat→Int):∀n,trN bs k fr tu Z n 21=Z 21
 |0=>rfl
 |n+1=>by
  show cyc (wS (rS (trN bs k fr tu Z n) _) _ _) 6 21=_;rw [zwT,k_wS,k_rS,zBr bs k fr tu Z n]
theorem zqP (bs:List Int) (k:Int) (B:Nat→Int) (Z:Nat→Nat→Int):trS bs k B Z 21=Z 21:=zBr _ _ _ _ _ _
def Kp (bs:List Int) (nm:ByteArray) (I B:Nat→Int) (t:Bool) (Z:Nat→Nat→Int):Prop:=∃ZZ,DoZ bs nm I B t Z ZZ∧ZZ 21=Z 21
theorem pb_0t {m:Int} (hm:zad m):zad (zbj m 0 true):=zbm (P:=fun x=>zad (zbj x 0 true)) (by unfold zad;decide +kernel) hm
theorem pb_0f {m:Int} (hm:zad m):zad (zbj m 0 false):=zbm (P:=fun x=>zad (zbj x 0 false)) (by unfold zad;decide +kernel) hm
theorem pb_1t {m:Int} (hm:zad m):zad (zbj m 1 true):=zbm (P:=fun x=>zad (zbj x 1 true)) (by unfold zad;decide +kernel) hm
theorem pb_1f {m:Int} (hm:zad m):zad (zbj m 1 false):=zbm (P:=fun x=>zad (zbj x 1 false)) (by unfold zad;decide +kernel) hm
theorem pb_2t {m:Int} (hm:zad m):zad (zbj m 2 true):=zbm (P:=fun x=>zad (zbj x 2 true)) (by unfold zad;decide +kernel) hm
theorem pb_2f {m:Int} (hm:zad m):zad (zbj m 2 false):=zbm (P:=fun x=>zad (zbj x 2 false)) (by unfold zad;decide +kernel) hm
theorem pb_3t {m:Int} (hm:zad m):zad (zbj m 3 true):=zbm (P:=fun x=>zad (zbj x 3 true)) (by unfold zad;decide +kernel) hm
theorem pb_3f {m:Int} (hm:zad m):zad (zbj m 3 false):=zbm (P:=fun x=>zad (zbj x 3 false)) (by unfold zad;decide +kernel) hm
theorem pb_4t {m:Int} (hm:zad m):zad (zbj m 4 true):=zbm (P:=fun x=>zad (zbj x 4 true)) (by unfold zad;decide +kernel) hm
theorem pb_4f {m:Int} (hm:zad m):zad (zbj m 4 false):=zbm (P:=fun x=>zad (zbj x 4 false)) (by unfold zad;decide +kernel) hm
theorem pb_5t {m:Int} (hm:zad m):zad (zbj m 5 true):=zbm (P:=fun x=>zad (zbj x 5 true)) (by unfold zad;decide +kernel) hm
theorem pb_5f {m:Int} (hm:zad m):zad (zbj m 5 false):=zbm (P:=fun x=>zad (zbj x 5 false)) (by unfold zad;decide +kernel) hm
theorem pb_6t {m:Int} (hm:zad m):zad (zbj m 6 true):=zbm (P:=fun x=>zad (zbj x 6 true)) (by unfold zad;decide +kernel) hm
theorem pb_6f {m:Int} (hm:zad m):zad (zbj m 6 false):=zbm (P:=fun x=>zad (zbj x 6 false)) (by unfold zad;decide +kernel) hm
theorem pb_7t {m:Int} (hm:zad m):zad (zbj m 7 true):=zbm (P:=fun x=>zad (zbj x 7 true)) (by unfold zad;decide +kernel) hm
theorem pb_7f {m:Int} (hm:zad m):zad (zbj m 7 false):=zbm (P:=fun x=>zad (zbj x 7 false)) (by unfold zad;decide +kernel) hm
theorem zBs {bs:List Int} {I B:Nat→Int} {t:Bool} {Z:Nat→Nat→Int} (h3:I 0=2→zad (I 3)) (h6:0≤I 6∧I 6<65536):Kp bs ⟨#[76,68,65]⟩ I B t Z:=⟨_,zzu h3,by rw [znC,k_mS]⟩
theorem zBt {bs:List Int} {I B:Nat→Int} {t:Bool} {Z:Nat→Nat→Int} (h3:I 0=2→zad (I 3)) (h6:0≤I 6∧I 6<65536):Kp bs ⟨#[76,68,88]⟩ I B t Z:=⟨_,zzv h3,by rw [znC,k_mS]⟩
theorem zBu {bs:List Int} {I B:Nat→Int} {t:Bool} {Z:Nat→Nat→Int} (h3:I 0=2→zad (I 3)) (h6:0≤I 6∧I 6<65536):Kp bs ⟨#[76,68,89]⟩ I B t Z:=⟨_,zzw h3,by rw [znC,k_mS]⟩
theorem zBv {bs:List Int} {I B:Nat→Int} {t:Bool} {Z:Nat→Nat→Int} (h3:I 0=2→zad (I 3)) (h6:0≤I 6∧I 6<65536):Kp bs ⟨#[83,84,65]⟩ I B t Z:=⟨_,zzx,k_wS _ _ _⟩
theorem zBw {bs:List Int} {I B:Nat→Int} {t:Bool} {Z:Nat→Nat→Int} (h3:I 0=2→zad (I 3)) (h6:0≤I 6∧I 6<65536):Kp bs ⟨#[83,84,88]⟩ I B t Z:=⟨_,zzy,k_wS _ _ _⟩
theorem zBx {bs:List Int} {I B:Nat→Int} {t:Bool} {Z:Nat→Nat→Int} (h3:I 0=2→zad (I 3)) (h6:0≤I 6∧I 6<65536):Kp bs ⟨#[83,84,89]⟩ I B t Z:=⟨_,zzz,k_wS _ _ _⟩
theorem zBy {bs:List Int} {I B:Nat→Int} {t:Bool} {Z:Nat→Nat→Int} (h3:I 0=2→zad (I 3)) (h6:0≤I 6∧I 6<65536):Kp bs ⟨#[83,84,90]⟩ I B t Z:=⟨_,zzA,k_wS _ _ _⟩
theorem zBz {bs:List Int} {I B:Nat→Int} {t:Bool} {Z:Nat→Nat→Int} (h3:I 0=2→zad (I 3)) (h6:0≤I 6∧I 6<65536):Kp bs ⟨#[79,82,65]⟩ I B t Z:=by
 cases t
 ·exact ⟨_,zqs,ztv _ _ _ _⟩
 ·exact ⟨_,ztg,ztw _ _ _ _⟩
theorem zBA {bs:List Int} {I B:Nat→Int} {t:Bool} {Z:Nat→Nat→Int} (h3:I 0=2→zad (I 3)) (h6:0≤I 6∧I 6<65536):Kp bs ⟨#[65,78,68]⟩ I B t Z:=by
 cases t
 ·exact ⟨_,zqt,ztv _ _ _ _⟩
 ·exact ⟨_,zth,ztw _ _ _ _⟩
theorem zBB {bs:List Int} {I B:Nat→Int} {t:Bool} {Z:Nat→Nat→Int} (h3:I 0=2→zad (I 3)) (h6:0≤I 6∧I 6<65536):Kp bs ⟨#[69,79,82]⟩ I B t Z:=by
 cases t
 ·exact ⟨_,zqu,ztv _ _ _ _⟩
 ·exact ⟨_,zti,ztw _ _ _ _⟩
theorem zBC {bs:List Int} {I B:Nat→Int} {t:Bool} {Z:Nat→Nat→Int} (h3:I 0=2→zad (I 3)) (h6:0≤I 6∧I 6<65536):Kp bs ⟨#[65,68,67]⟩ I B t Z:=by
 cases t
 ·exact ⟨_,zqv,ztv _ _ _ _⟩
 ·exact ⟨_,ztj,ztw _ _ _ _⟩
theorem zBD {bs:List Int} {I B:Nat→Int} {t:Bool} {Z:Nat→Nat→Int} (h3:I 0=2→zad (I 3)) (h6:0≤I 6∧I 6<65536):Kp bs ⟨#[83,66,67]⟩ I B t Z:=⟨_,zzB,k_wsS _ _ _ _ _⟩
theorem zBE {bs:List Int} {I B:Nat→Int} {t:Bool} {Z:Nat→Nat→Int} (h3:I 0=2→zad (I 3)) (h6:0≤I 6∧I 6<65536):Kp bs ⟨#[67,77,80]⟩ I B t Z:=⟨_,zzC,znD _ _ _ _ _⟩
theorem zBF {bs:List Int} {I B:Nat→Int} {t:Bool} {Z:Nat→Nat→Int} (h3:I 0=2→zad (I 3)) (h6:0≤I 6∧I 6<65536):Kp bs ⟨#[66,73,84]⟩ I B t Z:=⟨_,zzD,znD _ _ _ _ _⟩
theorem zBG {bs:List Int} {I B:Nat→Int} {t:Bool} {Z:Nat→Nat→Int} (h3:I 0=2→zad (I 3)) (h6:0≤I 6∧I 6<65536):Kp bs ⟨#[67,80,88]⟩ I B t Z:=⟨_,zzE,znD _ _ _ _ _⟩
theorem zBH {bs:List Int} {I B:Nat→Int} {t:Bool} {Z:Nat→Nat→Int} (h3:I 0=2→zad (I 3)) (h6:0≤I 6∧I 6<65536):Kp bs ⟨#[67,80,89]⟩ I B t Z:=⟨_,zzF,znD _ _ _ _ _⟩
theorem zBI {bs:List Int} {I B:Nat→Int} {t:Bool} {Z:Nat→Nat→Int} (h3:I 0=2→zad (I 3)) (h6:0≤I 6∧I 6<65536):Kp bs ⟨#[84,83,84]⟩ I B t Z:=⟨_,zzG,znD _ _ _ _ _⟩
theorem zBJ {bs:List Int} {I B:Nat→Int} {t:Bool} {Z:Nat→Nat→Int} (h3:I 0=2→zad (I 3)) (h6:0≤I 6∧I 6<65536):Kp bs ⟨#[65,83,76]⟩ I B t Z:=⟨_,zzH,zkj _ _ _ _⟩
theorem zBK {bs:List Int} {I B:Nat→Int} {t:Bool} {Z:Nat→Nat→Int} (h3:I 0=2→zad (I 3)) (h6:0≤I 6∧I 6<65536):Kp bs ⟨#[82,79,76]⟩ I B t Z:=⟨_,zzI,zkj _ _ _ _⟩
theorem zBL {bs:List Int} {I B:Nat→Int} {t:Bool} {Z:Nat→Nat→Int} (h3:I 0=2→zad (I 3)) (h6:0≤I 6∧I 6<65536):Kp bs ⟨#[76,83,82]⟩ I B t Z:=⟨_,zzJ,zkj _ _ _ _⟩
theorem zBM {bs:List Int} {I B:Nat→Int} {t:Bool} {Z:Nat→Nat→Int} (h3:I 0=2→zad (I 3)) (h6:0≤I 6∧I 6<65536):Kp bs ⟨#[82,79,82]⟩ I B t Z:=⟨_,zzK,zkj _ _ _ _⟩
theorem zBN {bs:List Int} {I B:Nat→Int} {t:Bool} {Z:Nat→Nat→Int} (h3:I 0=2→zad (I 3)) (h6:0≤I 6∧I 6<65536):Kp bs ⟨#[73,78,67]⟩ I B t Z:=⟨_,zzL,zkj _ _ _ _⟩
theorem zBO {bs:List Int} {I B:Nat→Int} {t:Bool} {Z:Nat→Nat→Int} (h3:I 0=2→zad (I 3)) (h6:0≤I 6∧I 6<65536):Kp bs ⟨#[68,69,67]⟩ I B t Z:=⟨_,zzM,zkj _ _ _ _⟩
theorem zBP {bs:List Int} {I B:Nat→Int} {t:Bool} {Z:Nat→Nat→Int} (h3:I 0=2→zad (I 3)) (h6:0≤I 6∧I 6<65536):Kp bs ⟨#[84,83,66]⟩ I B t Z:=⟨_,zzN,zkj _ _ _ _⟩
theorem zBQ {bs:List Int} {I B:Nat→Int} {t:Bool} {Z:Nat→Nat→Int} (h3:I 0=2→zad (I 3)) (h6:0≤I 6∧I 6<65536):Kp bs ⟨#[84,82,66]⟩ I B t Z:=⟨_,zzO,zkj _ _ _ _⟩
theorem zBR {bs:List Int} {I B:Nat→Int} {t:Bool} {Z:Nat→Nat→Int} (h3:I 0=2→zad (I 3)) (h6:0≤I 6∧I 6<65536):Kp bs ⟨#[73,78,88]⟩ I B t Z:=⟨_,zzP,ztx _ _ _⟩
theorem zBS {bs:List Int} {I B:Nat→Int} {t:Bool} {Z:Nat→Nat→Int} (h3:I 0=2→zad (I 3)) (h6:0≤I 6∧I 6<65536):Kp bs ⟨#[73,78,89]⟩ I B t Z:=⟨_,zzQ,ztx _ _ _⟩
theorem zBT {bs:List Int} {I B:Nat→Int} {t:Bool} {Z:Nat→Nat→Int} (h3:I 0=2→zad (I 3)) (h6:0≤I 6∧I 6<65536):Kp bs ⟨#[68,69,88]⟩ I B t Z:=⟨_,zzR,ztx _ _ _⟩
theorem zBU {bs:List Int} {I B:Nat→Int} {t:Bool} {Z:Nat→Nat→Int} (h3:I 0=2→zad (I 3)) (h6:0≤I 6∧I 6<65536):Kp bs ⟨#[68,69,89]⟩ I B t Z:=⟨_,zzS,ztx _ _ _⟩
theorem zwW {bs:List Int} {I B:Nat→Int} {t:Bool} {Z:Nat→Nat→Int} (h3:I 0=2→zad (I 3)) (h6:0≤I 6∧I 6<65536):Kp bs ⟨#[82,77,66,48]⟩ I B t Z:=⟨_,zwe h3 (fun m hm=>pb_0f hm),zeJ _ _ _ _ _⟩
theorem zwX {bs:List Int} {I B:Nat→Int} {t:Bool} {Z:Nat→Nat→Int} (h3:I 0=2→zad (I 3)) (h6:0≤I 6∧I 6<65536):Kp bs ⟨#[83,77,66,48]⟩ I B t Z:=⟨_,zwf h3 (fun m hm=>pb_0t hm),zeJ _ _ _ _ _⟩
theorem zwY {bs:List Int} {I B:Nat→Int} {t:Bool} {Z:Nat→Nat→Int} (h3:I 0=2→zad (I 3)) (h6:0≤I 6∧I 6<65536):Kp bs ⟨#[66,66,82,48]⟩ I B t Z:=⟨_,zwg,by rw [zde,k_mS]⟩
theorem zwZ {bs:List Int} {I B:Nat→Int} {t:Bool} {Z:Nat→Nat→Int} (h3:I 0=2→zad (I 3)) (h6:0≤I 6∧I 6<65536):Kp bs ⟨#[66,66,83,48]⟩ I B t Z:=⟨_,zwh,by rw [zde,k_mS]⟩
theorem zxa {bs:List Int} {I B:Nat→Int} {t:Bool} {Z:Nat→Nat→Int} (h3:I 0=2→zad (I 3)) (h6:0≤I 6∧I 6<65536):Kp bs ⟨#[82,77,66,49]⟩ I B t Z:=⟨_,zwi h3 (fun m hm=>pb_1f hm),zeJ _ _ _ _ _⟩
theorem zxb {bs:List Int} {I B:Nat→Int} {t:Bool} {Z:Nat→Nat→Int} (h3:I 0=2→zad (I 3)) (h6:0≤I 6∧I 6<65536):Kp bs ⟨#[83,77,66,49]⟩ I B t Z:=⟨_,zwj h3 (fun m hm=>pb_1t hm),zeJ _ _ _ _ _⟩
theorem zxc {bs:List Int} {I B:Nat→Int} {t:Bool} {Z:Nat→Nat→Int} (h3:I 0=2→zad (I 3)) (h6:0≤I 6∧I 6<65536):Kp bs ⟨#[66,66,82,49]⟩ I B t Z:=⟨_,zwk,by rw [zde,k_mS]⟩
theorem zxd {bs:List Int} {I B:Nat→Int} {t:Bool} {Z:Nat→Nat→Int} (h3:I 0=2→zad (I 3)) (h6:0≤I 6∧I 6<65536):Kp bs ⟨#[66,66,83,49]⟩ I B t Z:=⟨_,zwl,by rw [zde,k_mS]⟩
theorem zxe {bs:List Int} {I B:Nat→Int} {t:Bool} {Z:Nat→Nat→Int} (h3:I 0=2→zad (I 3)) (h6:0≤I 6∧I 6<65536):Kp bs ⟨#[82,77,66,50]⟩ I B t Z:=⟨_,zwm h3 (fun m hm=>pb_2f hm),zeJ _ _ _ _ _⟩
theorem zxf {bs:List Int} {I B:Nat→Int} {t:Bool} {Z:Nat→Nat→Int} (h3:I 0=2→zad (I 3)) (h6:0≤I 6∧I 6<65536):Kp bs ⟨#[83,77,66,50]⟩ I B t Z:=⟨_,zwn h3 (fun m hm=>pb_2t hm),zeJ _ _ _ _ _⟩
theorem zxg {bs:List Int} {I B:Nat→Int} {t:Bool} {Z:Nat→Nat→Int} (h3:I 0=2→zad (I 3)) (h6:0≤I 6∧I 6<65536):Kp bs ⟨#[66,66,82,50]⟩ I B t Z:=⟨_,zwo,by rw [zde,k_mS]⟩
theorem zxh {bs:List Int} {I B:Nat→Int} {t:Bool} {Z:Nat→Nat→Int} (h3:I 0=2→zad (I 3)) (h6:0≤I 6∧I 6<65536):Kp bs ⟨#[66,66,83,50]⟩ I B t Z:=⟨_,zwp,by rw [zde,k_mS]⟩
theorem zxi {bs:List Int} {I B:Nat→Int} {t:Bool} {Z:Nat→Nat→Int} (h3:I 0=2→zad (I 3)) (h6:0≤I 6∧I 6<65536):Kp bs ⟨#[82,77,66,51]⟩ I B t Z:=⟨_,zwq h3 (fun m hm=>pb_3f hm),zeJ _ _ _ _ _⟩
theorem zxj {bs:List Int} {I B:Nat→Int} {t:Bool} {Z:Nat→Nat→Int} (h3:I 0=2→zad (I 3)) (h6:0≤I 6∧I 6<65536):Kp bs ⟨#[83,77,66,51]⟩ I B t Z:=⟨_,zwr h3 (fun m hm=>pb_3t hm),zeJ _ _ _ _ _⟩
theorem zxk {bs:List Int} {I B:Nat→Int} {t:Bool} {Z:Nat→Nat→Int} (h3:I 0=2→zad (I 3)) (h6:0≤I 6∧I 6<65536):Kp bs ⟨#[66,66,82,51]⟩ I B t Z:=⟨_,zws,by rw [zde,k_mS]⟩
theorem zxl {bs:List Int} {I B:Nat→Int} {t:Bool} {Z:Nat→Nat→Int} (h3:I 0=2→zad (I 3)) (h6:0≤I 6∧I 6<65536):Kp bs ⟨#[66,66,83,51]⟩ I B t Z:=⟨_,zwt,by rw [zde,k_mS]⟩
theorem zxm {bs:List Int} {I B:Nat→Int} {t:Bool} {Z:Nat→Nat→Int} (h3:I 0=2→zad (I 3)) (h6:0≤I 6∧I 6<65536):Kp bs ⟨#[82,77,66,52]⟩ I B t Z:=⟨_,zwu h3 (fun m hm=>pb_4f hm),zeJ _ _ _ _ _⟩
theorem zxn {bs:List Int} {I B:Nat→Int} {t:Bool} {Z:Nat→Nat→Int} (h3:I 0=2→zad (I 3)) (h6:0≤I 6∧I 6<65536):Kp bs ⟨#[83,77,66,52]⟩ I B t Z:=⟨_,zwv h3 (fun m hm=>pb_4t hm),zeJ _ _ _ _ _⟩
theorem zxo {bs:List Int} {I B:Nat→Int} {t:Bool} {Z:Nat→Nat→Int} (h3:I 0=2→zad (I 3)) (h6:0≤I 6∧I 6<65536):Kp bs ⟨#[66,66,82,52]⟩ I B t Z:=⟨_,zww,by rw [zde,k_mS]⟩
theorem zxp {bs:List Int} {I B:Nat→Int} {t:Bool} {Z:Nat→Nat→Int} (h3:I 0=2→zad (I 3)) (h6:0≤I 6∧I 6<65536):Kp bs ⟨#[66,66,83,52]⟩ I B t Z:=⟨_,zwx,by rw [zde,k_mS]⟩
theorem zxq {bs:List Int} {I B:Nat→Int} {t:Bool} {Z:Nat→Nat→Int} (h3:I 0=2→zad (I 3)) (h6:0≤I 6∧I 6<65536):Kp bs ⟨#[82,77,66,53]⟩ I B t Z:=⟨_,zwy h3 (fun m hm=>pb_5f hm),zeJ _ _ _ _ _⟩
theorem zxr {bs:List Int} {I B:Nat→Int} {t:Bool} {Z:Nat→Nat→Int} (h3:I 0=2→zad (I 3)) (h6:0≤I 6∧I 6<65536):Kp bs ⟨#[83,77,66,53]⟩ I B t Z:=⟨_,zwz h3 (fun m hm=>pb_5t hm),zeJ _ _ _ _ _⟩
theorem zxs {bs:List Int} {I B:Nat→Int} {t:Bool} {Z:Nat→Nat→Int} (h3:I 0=2→zad (I 3)) (h6:0≤I 6∧I 6<65536):Kp bs ⟨#[66,66,82,53]⟩ I B t Z:=⟨_,zwA,by rw [zde,k_mS]⟩
theorem zxt {bs:List Int} {I B:Nat→Int} {t:Bool} {Z:Nat→Nat→Int} (h3:I 0=2→zad (I 3)) (h6:0≤I 6∧I 6<65536):Kp bs ⟨#[66,66,83,53]⟩ I B t Z:=⟨_,zwB,by rw [zde,k_mS]⟩
theorem zxu {bs:List Int} {I B:Nat→Int} {t:Bool} {Z:Nat→Nat→Int} (h3:I 0=2→zad (I 3)) (h6:0≤I 6∧I 6<65536):Kp bs ⟨#[82,77,66,54]⟩ I B t Z:=⟨_,zwC h3 (fun m hm=>pb_6f hm),zeJ _ _ _ _ _⟩
theorem zxv {bs:List Int} {I B:Nat→Int} {t:Bool} {Z:Nat→Nat→Int} (h3:I 0=2→zad (I 3)) (h6:0≤I 6∧I 6<65536):Kp bs ⟨#[83,77,66,54]⟩ I B t Z:=⟨_,zwD h3 (fun m hm=>pb_6t hm),zeJ _ _ _ _ _⟩
theorem zxw {bs:List Int} {I B:Nat→Int} {t:Bool} {Z:Nat→Nat→Int} (h3:I 0=2→zad (I 3)) (h6:0≤I 6∧I 6<65536):Kp bs ⟨#[66,66,82,54]⟩ I B t Z:=⟨_,zwE,by rw [zde,k_mS]⟩
theorem zxx {bs:List Int} {I B:Nat→Int} {t:Bool} {Z:Nat→Nat→Int} (h3:I 0=2→zad (I 3)) (h6:0≤I 6∧I 6<65536):Kp bs ⟨#[66,66,83,54]⟩ I B t Z:=⟨_,zwF,by rw [zde,k_mS]⟩
theorem zxy {bs:List Int} {I B:Nat→Int} {t:Bool} {Z:Nat→Nat→Int} (h3:I 0=2→zad (I 3)) (h6:0≤I 6∧I 6<65536):Kp bs ⟨#[82,77,66,55]⟩ I B t Z:=⟨_,zwG h3 (fun m hm=>pb_7f hm),zeJ _ _ _ _ _⟩
theorem zxz {bs:List Int} {I B:Nat→Int} {t:Bool} {Z:Nat→Nat→Int} (h3:I 0=2→zad (I 3)) (h6:0≤I 6∧I 6<65536):Kp bs ⟨#[83,77,66,55]⟩ I B t Z:=⟨_,zwH h3 (fun m hm=>pb_7t hm),zeJ _ _ _ _ _⟩
theorem zxA {bs:List Int} {I B:Nat→Int} {t:Bool} {Z:Nat→Nat→Int} (h3:I 0=2→zad (I 3)) (h6:0≤I 6∧I 6<65536):Kp bs ⟨#[66,66,82,55]⟩ I B t Z:=⟨_,zwI,by rw [zde,k_mS]⟩
theorem zxB {bs:List Int} {I B:Nat→Int} {t:Bool} {Z:Nat→Nat→Int} (h3:I 0=2→zad (I 3)) (h6:0≤I 6∧I 6<65536):Kp bs ⟨#[66,66,83,55]⟩ I B t Z:=⟨_,zwJ,by rw [zde,k_mS]⟩
theorem zBV {bs:List Int} {I B:Nat→Int} {t:Bool} {Z:Nat→Nat→Int} (h3:I 0=2→zad (I 3)) (h6:0≤I 6∧I 6<65536):Kp bs ⟨#[66,80,76]⟩ I B t Z:=⟨_,zzT,zde _ _ _ _⟩
theorem zBW {bs:List Int} {I B:Nat→Int} {t:Bool} {Z:Nat→Nat→Int} (h3:I 0=2→zad (I 3)) (h6:0≤I 6∧I 6<65536):Kp bs ⟨#[66,77,73]⟩ I B t Z:=⟨_,zzU,zde _ _ _ _⟩
theorem zBX {bs:List Int} {I B:Nat→Int} {t:Bool} {Z:Nat→Nat→Int} (h3:I 0=2→zad (I 3)) (h6:0≤I 6∧I 6<65536):Kp bs ⟨#[66,86,67]⟩ I B t Z:=⟨_,zzV,zde _ _ _ _⟩
theorem zBY {bs:List Int} {I B:Nat→Int} {t:Bool} {Z:Nat→Nat→Int} (h3:I 0=2→zad (I 3)) (h6:0≤I 6∧I 6<65536):Kp bs ⟨#[66,86,83]⟩ I B t Z:=⟨_,zzW,zde _ _ _ _⟩
theorem zBZ {bs:List Int} {I B:Nat→Int} {t:Bool} {Z:Nat→Nat→Int} (h3:I 0=2→zad (I 3)) (h6:0≤I 6∧I 6<65536):Kp bs ⟨#[66,67,67]⟩ I B t Z:=⟨_,zzX,zde _ _ _ _⟩
theorem zCa {bs:List Int} {I B:Nat→Int} {t:Bool} {Z:Nat→Nat→Int} (h3:I 0=2→zad (I 3)) (h6:0≤I 6∧I 6<65536):Kp bs ⟨#[66,67,83]⟩ I B t Z:=⟨_,zzY,zde _ _ _ _⟩
theorem zCb {bs:List Int} {I B:Nat→Int} {t:Bool} {Z:Nat→Nat→Int} (h3:I 0=2→zad (I 3)) (h6:0≤I 6∧I 6<65536):Kp bs ⟨#[66,78,69]⟩ I B t Z:=⟨_,zzZ,zde _ _ _ _⟩
theorem zCc {bs:List Int} {I B:Nat→Int} {t:Bool} {Z:Nat→Nat→Int} (h3:I 0=2→zad (I 3)) (h6:0≤I 6∧I 6<65536):Kp bs ⟨#[66,69,81]⟩ I B t Z:=⟨_,zAa,zde _ _ _ _⟩
theorem zCd {bs:List Int} {I B:Nat→Int} {t:Bool} {Z:Nat→Nat→Int} (h3:I 0=2→zad (I 3)) (h6:0≤I 6∧I 6<65536):Kp bs ⟨#[66,82,65]⟩ I B t Z:=⟨_,zAb,zBp _ _⟩
theorem zCe {bs:List Int} {I B:Nat→Int} {t:Bool} {Z:Nat→Nat→Int} (h3:I 0=2→zad (I 3)) (h6:0≤I 6∧I 6<65536):Kp bs ⟨#[74,77,80]⟩ I B t Z:=⟨_,zAc h6,rfl⟩
theorem zCf {bs:List Int} {I B:Nat→Int} {t:Bool} {Z:Nat→Nat→Int} (h3:I 0=2→zad (I 3)) (h6:0≤I 6∧I 6<65536):Kp bs ⟨#[74,83,82]⟩ I B t Z:=⟨_,zAd h6,k_jsS _ _⟩
theorem zCg {bs:List Int} {I B:Nat→Int} {t:Bool} {Z:Nat→Nat→Int} (h3:I 0=2→zad (I 3)) (h6:0≤I 6∧I 6<65536):Kp bs ⟨#[66,83,82]⟩ I B t Z:=⟨_,zAe,k_bsS _ _⟩
theorem zCh {bs:List Int} {I B:Nat→Int} {t:Bool} {Z:Nat→Nat→Int} (h3:I 0=2→zad (I 3)) (h6:0≤I 6∧I 6<65536):Kp bs ⟨#[82,84,83]⟩ I B t Z:=⟨_,zAf,k_rsS _ _⟩
theorem zCi {bs:List Int} {I B:Nat→Int} {t:Bool} {Z:Nat→Nat→Int} (h3:I 0=2→zad (I 3)) (h6:0≤I 6∧I 6<65536):Kp bs ⟨#[82,84,73]⟩ I B t Z:=⟨_,zAg,k_riS _ _⟩
theorem zCj {bs:List Int} {I B:Nat→Int} {t:Bool} {Z:Nat→Nat→Int} (h3:I 0=2→zad (I 3)) (h6:0≤I 6∧I 6<65536):Kp bs ⟨#[66,82,75]⟩ I B t Z:=⟨_,zAh,k_bkS _ _⟩
theorem zCk {bs:List Int} {I B:Nat→Int} {t:Bool} {Z:Nat→Nat→Int} (h3:I 0=2→zad (I 3)) (h6:0≤I 6∧I 6<65536):Kp bs ⟨#[80,72,80]⟩ I B t Z:=⟨_,zAi,zkY _ _⟩
theorem zCl {bs:List Int} {I B:Nat→Int} {t:Bool} {Z:Nat→Nat→Int} (h3:I 0=2→zad (I 3)) (h6:0≤I 6∧I 6<65536):Kp bs ⟨#[80,76,80]⟩ I B t Z:=⟨_,zAj,zBq _ _⟩
theorem zCm {bs:List Int} {I B:Nat→Int} {t:Bool} {Z:Nat→Nat→Int} (h3:I 0=2→zad (I 3)) (h6:0≤I 6∧I 6<65536):Kp bs ⟨#[80,76,65]⟩ I B t Z:=⟨_,zAk,by rw [znC,zkk]⟩
theorem zCn {bs:List Int} {I B:Nat→Int} {t:Bool} {Z:Nat→Nat→Int} (h3:I 0=2→zad (I 3)) (h6:0≤I 6∧I 6<65536):Kp bs ⟨#[80,76,88]⟩ I B t Z:=⟨_,zAl,by rw [znC,zkk]⟩
theorem zCo {bs:List Int} {I B:Nat→Int} {t:Bool} {Z:Nat→Nat→Int} (h3:I 0=2→zad (I 3)) (h6:0≤I 6∧I 6<65536):Kp bs ⟨#[80,76,89]⟩ I B t Z:=⟨_,zAm,by rw [znC,zkk]⟩
theorem zCp {bs:List Int} {I B:Nat→Int} {t:Bool} {Z:Nat→Nat→Int} (h3:I 0=2→zad (I 3)) (h6:0≤I 6∧I 6<65536):Kp bs ⟨#[80,72,65]⟩ I B t Z:=⟨_,zAn,zkY _ _⟩
theorem zCq {bs:List Int} {I B:Nat→Int} {t:Bool} {Z:Nat→Nat→Int} (h3:I 0=2→zad (I 3)) (h6:0≤I 6∧I 6<65536):Kp bs ⟨#[80,72,88]⟩ I B t Z:=⟨_,zAo,zkY _ _⟩
theorem zCr {bs:List Int} {I B:Nat→Int} {t:Bool} {Z:Nat→Nat→Int} (h3:I 0=2→zad (I 3)) (h6:0≤I 6∧I 6<65536):Kp bs ⟨#[80,72,89]⟩ I B t Z:=⟨_,zAp,zkY _ _⟩
theorem zCs {bs:List Int} {I B:Nat→Int} {t:Bool} {Z:Nat→Nat→Int} (h3:I 0=2→zad (I 3)) (h6:0≤I 6∧I 6<65536):Kp bs ⟨#[84,65,88]⟩ I B t Z:=⟨_,zAq,rfl⟩
theorem zCt {bs:List Int} {I B:Nat→Int} {t:Bool} {Z:Nat→Nat→Int} (h3:I 0=2→zad (I 3)) (h6:0≤I 6∧I 6<65536):Kp bs ⟨#[84,65,89]⟩ I B t Z:=⟨_,zAr,rfl⟩
theorem zCu {bs:List Int} {I B:Nat→Int} {t:Bool} {Z:Nat→Nat→Int} (h3:I 0=2→zad (I 3)) (h6:0≤I 6∧I 6<65536):Kp bs ⟨#[84,88,65]⟩ I B t Z:=⟨_,zAs,rfl⟩
theorem zCv {bs:List Int} {I B:Nat→Int} {t:Bool} {Z:Nat→Nat→Int} (h3:I 0=2→zad (I 3)) (h6:0≤I 6∧I 6<65536):Kp bs ⟨#[84,89,65]⟩ I B t Z:=⟨_,zAt,rfl⟩
theorem zCw {bs:List Int} {I B:Nat→Int} {t:Bool} {Z:Nat→Nat→Int} (h3:I 0=2→zad (I 3)) (h6:0≤I 6∧I 6<65536):Kp bs ⟨#[84,83,88]⟩ I B t Z:=⟨_,zAu,rfl⟩
theorem zCx {bs:List Int} {I B:Nat→Int} {t:Bool} {Z:Nat→Nat→Int} (h3:I 0=2→zad (I 3)) (h6:0≤I 6∧I 6<65536):Kp bs ⟨#[84,88,83]⟩ I B t Z:=⟨_,zAv,rfl⟩
theorem zCy {bs:List Int} {I B:Nat→Int} {t:Bool} {Z:Nat→Nat→Int} (h3:I 0=2→zad (I 3)) (h6:0≤I 6∧I 6<65536):Kp bs ⟨#[83,88,89]⟩ I B t Z:=⟨_,zAw,rfl⟩
theorem zCz {bs:List Int} {I B:Nat→Int} {t:Bool} {Z:Nat→Nat→Int} (h3:I 0=2→zad (I 3)) (h6:0≤I 6∧I 6<65536):Kp bs ⟨#[83,65,88]⟩ I B t Z:=⟨_,zAx,rfl⟩
theorem zCA {bs:List Int} {I B:Nat→Int} {t:Bool} {Z:Nat→Nat→Int} (h3:I 0=2→zad (I 3)) (h6:0≤I 6∧I 6<65536):Kp bs ⟨#[83,65,89]⟩ I B t Z:=⟨_,zAy,rfl⟩
theorem zCB {bs:List Int} {I B:Nat→Int} {t:Bool} {Z:Nat→Nat→Int} (h3:I 0=2→zad (I 3)) (h6:0≤I 6∧I 6<65536):Kp bs ⟨#[67,76,65]⟩ I B t Z:=⟨_,zAz,rfl⟩
theorem zCC {bs:List Int} {I B:Nat→Int} {t:Bool} {Z:Nat→Nat→Int} (h3:I 0=2→zad (I 3)) (h6:0≤I 6∧I 6<65536):Kp bs ⟨#[67,76,88]⟩ I B t Z:=⟨_,zAA,rfl⟩
theorem zCD {bs:List Int} {I B:Nat→Int} {t:Bool} {Z:Nat→Nat→Int} (h3:I 0=2→zad (I 3)) (h6:0≤I 6∧I 6<65536):Kp bs ⟨#[67,76,89]⟩ I B t Z:=⟨_,zAB,rfl⟩
theorem zCE {bs:List Int} {I B:Nat→Int} {t:Bool} {Z:Nat→Nat→Int} (h3:I 0=2→zad (I 3)) (h6:0≤I 6∧I 6<65536):Kp bs ⟨#[67,76,67]⟩ I B t Z:=⟨_,zAC,rfl⟩
theorem zCF {bs:List Int} {I B:Nat→Int} {t:Bool} {Z:Nat→Nat→Int} (h3:I 0=2→zad (I 3)) (h6:0≤I 6∧I 6<65536):Kp bs ⟨#[67,76,68]⟩ I B t Z:=⟨_,zAD,rfl⟩
theorem zCG {bs:List Int} {I B:Nat→Int} {t:Bool} {Z:Nat→Nat→Int} (h3:I 0=2→zad (I 3)) (h6:0≤I 6∧I 6<65536):Kp bs ⟨#[67,76,73]⟩ I B t Z:=⟨_,zAE,rfl⟩
theorem zCH {bs:List Int} {I B:Nat→Int} {t:Bool} {Z:Nat→Nat→Int} (h3:I 0=2→zad (I 3)) (h6:0≤I 6∧I 6<65536):Kp bs ⟨#[67,76,86]⟩ I B t Z:=⟨_,zAF,rfl⟩
theorem zCI {bs:List Int} {I B:Nat→Int} {t:Bool} {Z:Nat→Nat→Int} (h3:I 0=2→zad (I 3)) (h6:0≤I 6∧I 6<65536):Kp bs ⟨#[83,69,67]⟩ I B t Z:=⟨_,zAG,rfl⟩
theorem zCJ {bs:List Int} {I B:Nat→Int} {t:Bool} {Z:Nat→Nat→Int} (h3:I 0=2→zad (I 3)) (h6:0≤I 6∧I 6<65536):Kp bs ⟨#[83,69,68]⟩ I B t Z:=⟨_,zAH,rfl⟩
theorem zCK {bs:List Int} {I B:Nat→Int} {t:Bool} {Z:Nat→Nat→Int} (h3:I 0=2→zad (I 3)) (h6:0≤I 6∧I 6<65536):Kp bs ⟨#[83,69,73]⟩ I B t Z:=⟨_,zAI,rfl⟩
theorem zCL {bs:List Int} {I B:Nat→Int} {t:Bool} {Z:Nat→Nat→Int} (h3:I 0=2→zad (I 3)) (h6:0≤I 6∧I 6<65536):Kp bs ⟨#[83,69,84]⟩ I B t Z:=⟨_,zAJ,rfl⟩
theorem zCM {bs:List Int} {I B:Nat→Int} {t:Bool} {Z:Nat→Nat→Int} (h3:I 0=2→zad (I 3)) (h6:0≤I 6∧I 6<65536):Kp bs ⟨#[84,77,65]⟩ I B t Z:=⟨_,zAM,rfl⟩
theorem zCN {bs:List Int} {I B:Nat→Int} {t:Bool} {Z:Nat→Nat→Int} (h3:I 0=2→zad (I 3)) (h6:0≤I 6∧I 6<65536):Kp bs ⟨#[84,65,77]⟩ I B t Z:=by
 by_cases hq:I 3=0
 ·exact ⟨_,zqw hq,rfl⟩
 ·exact ⟨_,zAN hq,rfl⟩
theorem zCO {bs:List Int} {I B:Nat→Int} {t:Bool} {Z:Nat→Nat→Int} (h3:I 0=2→zad (I 3)) (h6:0≤I 6∧I 6<65536):Kp bs ⟨#[83,84,48]⟩ I B t Z:=⟨_,zAO,zwV _ _ _⟩
theorem zCP {bs:List Int} {I B:Nat→Int} {t:Bool} {Z:Nat→Nat→Int} (h3:I 0=2→zad (I 3)) (h6:0≤I 6∧I 6<65536):Kp bs ⟨#[83,84,49]⟩ I B t Z:=⟨_,zAP,zwV _ _ _⟩
theorem zCQ {bs:List Int} {I B:Nat→Int} {t:Bool} {Z:Nat→Nat→Int} (h3:I 0=2→zad (I 3)) (h6:0≤I 6∧I 6<65536):Kp bs ⟨#[83,84,50]⟩ I B t Z:=⟨_,zAQ,zwV _ _ _⟩
theorem zCR {bs:List Int} {I B:Nat→Int} {t:Bool} {Z:Nat→Nat→Int} (h3:I 0=2→zad (I 3)) (h6:0≤I 6∧I 6<65536):Kp bs ⟨#[84,73,73]⟩ I B t Z:=⟨_,zAR,zqP _ _ _ _⟩
theorem zCS {bs:List Int} {I B:Nat→Int} {t:Bool} {Z:Nat→Nat→Int} (h3:I 0=2→zad (I 3)) (h6:0≤I 6∧I 6<65536):Kp bs ⟨#[84,68,68]⟩ I B t Z:=⟨_,zAS,zqP _ _ _ _⟩
theorem zCT {bs:List Int} {I B:Nat→Int} {t:Bool} {Z:Nat→Nat→Int} (h3:I 0=2→zad (I 3)) (h6:0≤I 6∧I 6<65536):Kp bs ⟨#[84,73,78]⟩ I B t Z:=⟨_,zAT,zqP _ _ _ _⟩
theorem zCU {bs:List Int} {I B:Nat→Int} {t:Bool} {Z:Nat→Nat→Int} (h3:I 0=2→zad (I 3)) (h6:0≤I 6∧I 6<65536):Kp bs ⟨#[84,73,65]⟩ I B t Z:=⟨_,zAU,zqP _ _ _ _⟩
theorem zCV {bs:List Int} {I B:Nat→Int} {t:Bool} {Z:Nat→Nat→Int} (h3:I 0=2→zad (I 3)) (h6:0≤I 6∧I 6<65536):Kp bs ⟨#[84,65,73]⟩ I B t Z:=⟨_,zAV,zqP _ _ _ _⟩
theorem zCW {bs:List Int} {I B:Nat→Int} {t:Bool} {Z:Nat→Nat→Int} (h3:I 0=2→zad (I 3)) (h6:0≤I 6∧I 6<65536):Kp bs ⟨#[78,79,80]⟩ I B t Z:=⟨_,zAW,rfl⟩
def allN:List ByteArray:=[⟨#[76,68,65]⟩,⟨#[76,68,88]⟩,⟨#[76,68,89]⟩,⟨#[83,84,65]⟩,⟨#[83,84,88]⟩,⟨#[83,84,89]⟩,⟨#[83,84,90]⟩,⟨#[79,82,65]⟩,⟨#[65,78,68]⟩,⟨#[69,79,82]⟩,⟨#[65,68,67]⟩,⟨#[83,66,67]⟩,⟨#[67,77,80]⟩,⟨#[66,73,84]⟩,⟨#[67,80,88]⟩,⟨#[67,80,89]⟩,⟨#[84,83,84]⟩,⟨#[65,83,76]⟩,⟨#[82,79,76]⟩,⟨#[76,83,82]⟩,⟨#[82,79,82]⟩,⟨#[73,78,67]⟩,⟨#[68,69,67]⟩,⟨#[84,83,66]⟩,⟨#[84,82,66]⟩,⟨#[73,78,88]⟩,⟨#[73,78,89]⟩,⟨#[68,69,88]⟩,⟨#[68,69,89]⟩,⟨#[82,77,66,48]⟩,⟨#[83,77,66,48]⟩,⟨#[66,66,82,48]⟩,⟨#[66,66,83,48]⟩,⟨#[82,77,66,49]⟩,⟨#[83,77,66,49]⟩,⟨#[66,66,82,49]⟩,⟨#[66,66,83,49]⟩,⟨#[82,77,66,50]⟩,⟨#[83,77,66,50]⟩,⟨#[66,66,82,50]⟩,⟨#[66,66,83,50]⟩,⟨#[82,77,66,51]⟩,⟨#[83,77,66,51]⟩,⟨#[66,66,82,51]⟩,⟨#[66,66,83,51]⟩,⟨#[82,77,66,52]⟩,⟨#[83,77,66,52]⟩,⟨#[66,66,82,52]⟩,⟨#[66,66,83,52]⟩,⟨#[82,77,66,53]⟩,⟨#[83,77,66,53]⟩,⟨#[66,66,82,53]⟩,⟨#[66,66,83,53]⟩,⟨#[82,77,66,54]⟩,⟨#[83,77,66,54]⟩,⟨#[66,66,82,54]⟩,⟨#[66,66,83,54]⟩,⟨#[82,77,66,55]⟩,⟨#[83,77,66,55]⟩,⟨#[66,66,82,55]⟩,⟨#[66,66,83,55]⟩,⟨#[66,80,76]⟩,⟨#[66,77,73]⟩,⟨#[66,86,67]⟩,⟨#[66,86,83]⟩,⟨#[66,67,67]⟩,⟨#[66,67,83]⟩,⟨#[66,78,69]⟩,⟨#[66,69,81]⟩,⟨#[66,82,65]⟩,⟨#[74,77,80]⟩,⟨#[74,83,82]⟩,⟨#[66,83,82]⟩,⟨#[82,84,83]⟩,⟨#[82,84,73]⟩,⟨#[66,82,75]⟩,⟨#[80,72,80]⟩,⟨#[80,76,80]⟩,⟨#[80,76,65]⟩,⟨#[80,76,88]⟩,⟨#[80,76,89]⟩,⟨#[80,72,65]⟩,⟨#[80,72,88]⟩,⟨#[80,72,89]⟩,⟨#[84,65,88]⟩,⟨#[84,65,89]⟩,⟨#[84,88,65]⟩,⟨#[84,89,65]⟩,⟨#[84,83,88]⟩,⟨#[84,88,83]⟩,⟨#[83,88,89]⟩,⟨#[83,65,88]⟩,⟨#[83,65,89]⟩,⟨#[67,76,65]⟩,⟨#[67,76,88]⟩,⟨#[67,76,89]⟩,⟨#[67,76,67]⟩,⟨#[67,76,68]⟩,⟨#[67,76,73]⟩,⟨#[67,76,86]⟩,⟨#[83,69,67]⟩,⟨#[83,69,68]⟩,⟨#[83,69,73]⟩,⟨#[83,69,84]⟩,⟨#[84,77,65]⟩,⟨#[84,65,77]⟩,⟨#[83,84,48]⟩,⟨#[83,84,49]⟩,⟨#[83,84,50]⟩,⟨#[84,73,73]⟩,⟨#[84,68,68]⟩,⟨#[84,73,78]⟩,⟨#[84,73,65]⟩,⟨#[84,65,73]⟩,⟨#[78,79,80]⟩]
theorem zty (n:Nat) (hn:n<256) (h1:n≠212) (h2:n≠84):zcW n ∈ allN:=by
 have h:(List.range 256).all (fun b=>decide (b=212)||decide (b=84)||allN.any (fun s=>s.data==(zcW b).data))=true:=by kernel_rfl
 have k:=zhb h n hn;simp only [h1,h2,decide_false,Bool.false_or,List.any_eq_true,beq_iff_eq] at k;obtain ⟨s,hs,e⟩:=k;have:s=zcW n:=ByteArray.ext e;rw [←this];exact hs
theorem zCX {bs:List Int} {I B:Nat→Int} {t:Bool} {Z:Nat→Nat→Int} (h3:I 0=2→zad (I 3)) (h6:0≤I 6∧I 6<65536) (n:Nat) (hn:n<256) (h1:n≠212) (h2:n≠84):Kp bs (zcW n) I B t Z:=by
 have h:=zty n hn h1 h2;generalize zcW n=nm at *;unfold allN at h;simp only [List.mem_cons,List.not_mem_nil,or_false] at h;rcases h with rfl|rfl|rfl|rfl|rfl|rfl|rfl|rfl|rfl|rfl|rfl|rfl|rfl|rfl|rfl|rfl|rfl|rfl|rfl|rfl|rfl|rfl|rfl|rfl|rfl|rfl|rfl|rfl|rfl|rfl|rfl|rfl|rfl|rfl|rfl|rfl|rfl|rfl|rfl|rfl|rfl|rfl|rfl|rfl|rfl|rfl|rfl|rfl|rfl|rfl|rfl|rfl|rfl|rfl|rfl|rfl|rfl|rfl|rfl|rfl|rfl|rfl|rfl|rfl|rfl|rfl|rfl|rfl|rfl|rfl|rfl|rfl|rfl|rfl|rfl|rfl|rfl|rfl|rfl|rfl|rfl|rfl|rfl|rfl|rfl|rfl|rfl|rfl|rfl|rfl|rfl|rfl|rfl|rfl|rfl|rfl|rfl|rfl|rfl|rfl|rfl|rfl|rfl|rfl|rfl|rfl|rfl|rfl|rfl|rfl|rfl|rfl|rfl|rfl|rfl
 ·exact zBs h3 h6
 ·exact zBt h3 h6
 ·exact zBu h3 h6
 ·exact zBv h3 h6
 ·exact zBw h3 h6
 ·exact zBx h3 h6
 ·exact zBy h3 h6
 ·exact zBz h3 h6
 ·exact zBA h3 h6
 ·exact zBB h3 h6
 ·exact zBC h3 h6
 ·exact zBD h3 h6
 ·exact zBE h3 h6
 ·exact zBF h3 h6
 ·exact zBG h3 h6
 ·exact zBH h3 h6
 ·exact zBI h3 h6
 ·exact zBJ h3 h6
 ·exact zBK h3 h6
 ·exact zBL h3 h6
 ·exact zBM h3 h6
 ·exact zBN h3 h6
 ·exact zBO h3 h6
 ·exact zBP h3 h6
 ·exact zBQ h3 h6
 ·exact zBR h3 h6
 ·exact zBS h3 h6
 ·exact zBT h3 h6
 ·exact zBU h3 h6
 ·exact zwW h3 h6
 ·exact zwX h3 h6
 ·exact zwY h3 h6
 ·exact zwZ h3 h6
 ·exact zxa h3 h6
 ·exact zxb h3 h6
 ·exact zxc h3 h6
 ·exact zxd h3 h6
 ·exact zxe h3 h6
 ·exact zxf h3 h6
 ·exact zxg h3 h6
 ·exact zxh h3 h6
 ·exact zxi h3 h6
 ·exact zxj h3 h6
 ·exact zxk h3 h6
 ·exact zxl h3 h6
 ·exact zxm h3 h6
 ·exact zxn h3 h6
 ·exact zxo h3 h6
 ·exact zxp h3 h6
 ·exact zxq h3 h6
 ·exact zxr h3 h6
 ·exact zxs h3 h6
 ·exact zxt h3 h6
 ·exact zxu h3 h6
 ·exact zxv h3 h6
 ·exact zxw h3 h6
 ·exact zxx h3 h6
 ·exact zxy h3 h6
 ·exact zxz h3 h6
 ·exact zxA h3 h6
 ·exact zxB h3 h6
 ·exact zBV h3 h6
 ·exact zBW h3 h6
 ·exact zBX h3 h6
 ·exact zBY h3 h6
 ·exact zBZ h3 h6
 ·exact zCa h3 h6
 ·exact zCb h3 h6
 ·exact zCc h3 h6
 ·exact zCd h3 h6
 ·exact zCe h3 h6
 ·exact zCf h3 h6
 ·exact zCg h3 h6
 ·exact zCh h3 h6
 ·exact zCi h3 h6
 ·exact zCj h3 h6
 ·exact zCk h3 h6
 ·exact zCl h3 h6
 ·exact zCm h3 h6
 ·exact zCn h3 h6
 ·exact zCo h3 h6
 ·exact zCp h3 h6
 ·exact zCq h3 h6
 ·exact zCr h3 h6
 ·exact zCs h3 h6
 ·exact zCt h3 h6
 ·exact zCu h3 h6
 ·exact zCv h3 h6
 ·exact zCw h3 h6
 ·exact zCx h3 h6
 ·exact zCy h3 h6
 ·exact zCz h3 h6
 ·exact zCA h3 h6
 ·exact zCB h3 h6
 ·exact zCC h3 h6
 ·exact zCD h3 h6
 ·exact zCE h3 h6
 ·exact zCF h3 h6
 ·exact zCG h3 h6
 ·exact zCH h3 h6
 ·exact zCI h3 h6
 ·exact zCJ h3 h6
 ·exact zCK h3 h6
 ·exact zCL h3 h6
 ·exact zCM h3 h6
 ·exact zCN h3 h6
 ·exact zCO h3 h6
 ·exact zCP h3 h6
 ·exact zCQ h3 h6
 ·exact zCR h3 h6
 ·exact zCS h3 h6
 ·exact zCT h3 h6
 ·exact zCU h3 h6
 ·exact zCV h3 h6
 ·exact zCW h3 h6
theorem k_nx (Z:Nat→Nat→Int):nx Z 21=Z 21:=by
 unfold nx;rw [zeu,k_rS]
theorem zCY (Z:Nat→Nat→Int):∀k,nxN Z k 21=Z 21
 |0=>rfl
 |k+1=>by
  show nx (nxN Z k) 21=_;rw [k_nx,zCY Z k]
theorem k_f4 (bs:List Int) (Z:Nat→Nat→Int):f4 bs Z 21=Z 21:=by
 have e:f3 bs Z 21=Z 21:=by
  unfold f3;rw [zeu];unfold f2;rw [zCY];unfold f1;rw [zwT,k_nx]
 unfold f4;split
 ·rw [k_pS,e]
 ·exact e
theorem zCZ (n:Nat) (hn:n<256):zbH n=2→zce n=2:=by
 have h:(List.range 256).all (fun b=>decide (zbH b=2→zce b=2))=true:=by kernel_rfl
 exact of_decide_eq_true (zhb h n hn)
theorem fI_3 {bs:List Int} {Z:Nat→Nat→Int} (hn:fN bs Z<256):fI bs Z 0=2→zad (fI bs Z 3):=fun h=>by
 have hm:fM bs Z=2:=h;have hl:=zCZ _ hn hm;show zad (fO bs Z);unfold fO;rw [hm];have e:opF 2 (fB bs Z)=jn (fB bs Z 0) (fB bs Z 1):=by
  unfold opF;rw [if_neg (by decide),if_neg (by decide),if_neg (by decide)]
 have e1:fB bs Z 1=0:=by
  unfold fB;rw [hl];rfl
 rw [e,e1];unfold jn zad;omega
theorem fI_6 (bs:List Int) (Z:Nat→Nat→Int):0≤fI bs Z 6∧fI bs Z 6<65536:=by
 have k:=zsD (fM bs Z) (Z 20 1) (Z 20 2) (fO bs Z) (fQ bs Z);show 0≤fP bs Z∧fP bs Z<65536;unfold fP;omega
theorem znE {w:World} {b v c d:Nat} {bs:List Int} {Z:Nat→Nat→Int} (h:HasM w b v c d bs Z) (R:Nat→Int) (f:Bool) (l:Int) (px:Int) (KP:∀w,HasVec w→Calls Tryz.prog 20 #[.agg (rowF (sv (setZ Z 13 0) (setZ Z 13 1)) 2),.int .i64 (R 4%256)] w fun e w'=>e=Ending.returned (.tuple #[.int .i64 px,.bool false])∧Below w.heap.size w w')
  (hn:fN bs (inZ Z R f l)<256) (h1:fN bs (inZ Z R f l)≠212) (h2:fN bs (inZ Z R f l)≠84):∃a' x' y' s' p' q' l' cy,Calls Tryz.prog 13 #[.agg #[.int .i64 (R 0),.int .i64 (R 1),.int .i64 (R 2),.int .i64 (R 3),.int .i64 (R 4),.int .i64 (R 5),.bool f,.int .i64 l],.pointer (some ⟨b,0,none⟩)] w fun e w'=>e=Ending.returned (.tuple #[.agg #[.int .i64 a',.int .i64 x',.int .i64 y',.int .i64 s',.int .i64 p',.int .i64 q',.bool f,.int .i64 l'],.int .i64 cy])∧OnlyE (EX b v) w w':=by
 obtain ⟨ZZ,hd,hk⟩:=zCX (bs:=bs) (I:=fI bs (inZ Z R f l)) (B:=fB bs (inZ Z R f l)) (t:=fT (inZ Z R f l)) (Z:=f4 bs (inZ Z R f l)) (fI_3 hn) (fI_6 _ _) _ hn h1 h2;have k:=zlX h R f l px KP hd;refine ⟨ZZ 20 0,ZZ 20 1,ZZ 20 2,ZZ 20 3,ZZ 20 4,ZZ 20 5,ZZ 22 0,ZZ 23 0,k.mono fun e w' ⟨r,_,o⟩=>⟨?_,o⟩⟩;have e21:isB (ZZ 21 0)=f:=by
  rw [hk,k_f4];show isB (b2i f)=f;exact zgW f
 rw [r];unfold zgm;rw [e21]
end Go.Proofs.YtoijhhbiknhlnaaGreatDoor.L25
