/- Texts put together. -/
import Derived.Test.YtnllcknfmciebaaGreatDoorBusPlaysJ39
namespace Go.Proofs.YtnllcknfmciebaaGreatDoor.L24
set_option maxRecDepth 20000
open B4 C3 D24 G6 I11 J23 M5 P22 R15 T10 V12 W13
open Go.RowKit
set_option linter.unusedVariables false
set_option maxHeartbeats 8000000 in
theorem like_r3 {u2 u3 u4 u5 u6 u7 u8 u9 u10 u11 u12 u13 u14 u15 u16 u17 u18 u19 u20 u21 u22 u23 u24 u25 u26 u27 u28 u29 u30 u31 u32 u33 u34 u35 u36 u37 u38 u39 u40 u41 u42 u43 u44 u45 u46 u47 u48 u49 u50 u51 u52 u53 u54 u55 u56 u57 u58 u59 u60 u61 u62 u63 u64 u65 u66 u67 u68 u69 u70 u71 u72 u73 u74 u75 u76 u77 u78 u79 u80 u81 u82 u83 u84 u85 u86 u87 u88 u89 u90 u91 u92 u93 u94 u95 u96 u97 u98 u99 u100 u101 u102 u103 u104 u105 u106 u107 u108 u109 u110 u111 u112 u113 u114 u115 u116 u117 u118 u119 u120 u121 u122 u123 u124 u125 u126 u127 u128 u129 u130 u131 u132 u133 u134 u135 u136 u137 u138 u139 u140 u141 u142 u143 u144 u145 u146 u147 u148 u149 u150 u151 u152 u153 u154 u155 u156 u157 u158 u159 u160 u161 u162 u163 u164 u165 u166 u167 u168 u169 u170 u171 u172 u173 u174 u175 u176 u177 u178 u179 u180 u181 u182 u183 u184 u185 u186 u187 u188 u189 u190 u191 u192 u193 u194 u195 u196 u197 u198 u199 u200 u201 u202 u203 u204 u205 u206 u207 u208 u209 u210 u211 u212 u213 u214 u215 u216 u217 u218 u219 u220 u221 u222 u223 u224 u225 u226:Value} {w2:World} {b v c d b' c' d' r:Nat} {bs:List Int} {P:Int} {sl:Value} {Y:Nat→Nat→Int} (x0:HasP w2 b v c d bs Y) (y0:HasD w2 b' c' d' r P sl Y) (Q:Exit→Act→World→Prop)
  (q0:∀(x24 x25 x26 x27 x28 x29 x30 x31 x32 x33 x34 x35 x36 x37 x38 x39 x40 x41 x42 x43 x44 x45 x46 x47 x48 x49 x50 x51 x52 x53 x54 x55 x56 x57 x58 x59 x60 x61 x62 x63 x64 x65 x66 x67 x68 x69 x70 x71 x72 x73 x74 x75 x76 x77 x78 x79 x80 x81 x82 x83 x84 x85 x86 x87 x88 x89 x90 x91 x92 x93 x94 x95 x96 x97 x98 x99 x100 x101 x102:Value) (wk:Kept w2),Q .normal ⟨#[.pointer (some ⟨b,0,none⟩),.pointer (some ⟨b',0,none⟩),u2,u3,u4,u5,u6,u7,u8,u9,u10,u11,u12,u13,u14,u15,u16,u17,u18,u19,u20,u21,u22,u23,x24,x25,x26,x27,x28,x29,x30,x31,x32,x33,x34,x35,x36,x37,x38,x39,x40,x41,x42,x43,x44,x45,x46,x47,x48,x49,x50,x51,x52,x53,x54,x55,x56,x57,x58,x59,x60,x61,x62,x63,x64,x65,x66,x67,x68,x69,x70,x71,x72,x73,x74,x75,x76,x77,x78,x79,x80,x81,x82,x83,x84,x85,x86,x87,x88,x89,x90,x91,x92,x93,x94,x95,x96,x97,x98,x99,x100,x101,x102,.bool false,u104,u105,u106,u107,u108,u109,u110,u111,u112,u113,u114,u115,u116,u117,u118,u119,u120,u121,u122,u123,u124,u125,u126,u127,u128,u129,u130,u131,u132,u133,u134,u135,u136,u137,u138,u139,u140,u141,u142,u143,u144,u145,u146,u147,u148,u149,u150,u151,u152,u153,u154,u155,u156,u157,u158,u159,u160,u161,u162,u163,u164,u165,u166,u167,u168,u169,u170,u171,u172,u173,u174,u175,u176,u177,u178,u179,u180,u181,u182,u183,u184,u185,u186,u187,u188,u189,u190,u191,u192,u193,u194,u195,u196,u197,u198,u199,u200,u201,u202,u203,u204,u205,u206,u207,u208,u209,u210,u211,u212,u213,u214,u215,u216,u217,u218,u219,u220,u221,u222,u223,u224,u225,u226],[]⟩ wk.val):Code.wp Tryz.prog ((Tryz.f5.body.bind (findRegion 3)).getD .skip) Q ⟨#[.pointer (some ⟨b,0,none⟩),.pointer (some ⟨b',0,none⟩),u2,u3,u4,u5,u6,u7,u8,u9,u10,u11,u12,u13,u14,u15,u16,u17,u18,u19,u20,u21,u22,u23,u24,u25,u26,u27,u28,u29,u30,u31,u32,u33,u34,u35,u36,u37,u38,u39,u40,u41,u42,u43,u44,u45,u46,u47,u48,u49,u50,u51,u52,u53,u54,u55,u56,u57,u58,u59,u60,u61,u62,u63,u64,u65,u66,u67,u68,u69,u70,u71,u72,u73,u74,u75,u76,u77,u78,u79,u80,u81,u82,u83,u84,u85,u86,u87,u88,u89,u90,u91,u92,u93,u94,u95,u96,u97,u98,u99,u100,u101,u102,u103,u104,u105,u106,u107,u108,u109,u110,u111,u112,u113,u114,u115,u116,u117,u118,u119,u120,u121,u122,u123,u124,u125,u126,u127,u128,u129,u130,u131,u132,u133,u134,u135,u136,u137,u138,u139,u140,u141,u142,u143,u144,u145,u146,u147,u148,u149,u150,u151,u152,u153,u154,u155,u156,u157,u158,u159,u160,u161,u162,u163,u164,u165,u166,u167,u168,u169,u170,u171,u172,u173,u174,u175,u176,u177,u178,u179,u180,u181,u182,u183,u184,u185,u186,u187,u188,u189,u190,u191,u192,u193,u194,u195,u196,u197,u198,u199,u200,u201,u202,u203,u204,u205,u206,u207,u208,u209,u210,u211,u212,u213,u214,u215,u216,u217,u218,u219,u220,u221,u222,u223,u224,u225,u226],[]⟩ w2:=by
 have X2:=hide x0
 have Y2:=hide y0
 have HQ:=hide q0
 clear x0 y0 q0
 conv=>arg 2;whnf
 have LB:=hide X2.out.1.lt
 have LY:=hide Y2.out.1.lt
 have a7:=kept_cell (X2.out.1.get1 7 rfl (a:=282) (X2.out.isB.off 7 rfl) (by decide)) X2.out.1.lt
 have a3:=kept_cell (X2.out.1.get1 3 rfl (a:=278) (X2.out.isB.off 3 rfl) (by decide)) X2.out.1.lt
 have a4:=kept_cell (X2.out.1.get1 4 rfl (a:=279) (X2.out.isB.off 4 rfl) (by decide)) X2.out.1.lt
 have a5:=kept_cell (X2.out.1.get1 5 rfl (a:=280) (X2.out.isB.off 5 rfl) (by decide)) X2.out.1.lt
 have e1:=kept_cell (Y2.out.1.get1 1 rfl (a:=1) (Y2.out.2.2.2.1.off 1 rfl) (by decide)) Y2.out.1.lt
 have e8:=kept_cell (Y2.out.1.get1 8 rfl (a:=290) (Y2.out.2.2.2.1.off 8 rfl) (by decide)) Y2.out.1.lt
 have e9:=kept_cell (Y2.out.1.get1 9 rfl (a:=291) (Y2.out.2.2.2.1.off 9 rfl) (by decide)) Y2.out.1.lt
 have e10:=kept_cell (Y2.out.1.get1 10 rfl (a:=292) (Y2.out.2.2.2.1.off 10 rfl) (by decide)) Y2.out.1.lt
 have R9:=hide (range_seg X2.out.1 9 rfl (a:=8475) (X2.out.isB.off 9 rfl) (by decide))
 have S4:=hide (range_seg Y2.out.1 4 rfl (a:=4) (Y2.out.2.2.2.1.off 4 rfl) (by decide))
 have R0:=hide (range_seg X2.out.1 0 rfl (a:=0) (X2.out.isB.off 0 rfl) (by decide))
 have S5:=hide (range_seg Y2.out.1 5 rfl (a:=12) (Y2.out.2.2.2.1.off 5 rfl) (by decide))
 have R2:=hide (range_seg X2.out.1 2 rfl (a:=22) (X2.out.isB.off 2 rfl) (by decide))
 have S7:=hide (range_seg Y2.out.1 7 rfl (a:=34) (Y2.out.2.2.2.1.off 7 rfl) (by decide))
 have E9:=neq_8 (Y 9)
 have E0:=neq_regs (Y 0)
 have E2:=neq_256 (Y 2)
 have I9:=hide (show (rowF (iv (Y 9)) 8).size=8 from rowF_size _ _)
 have I0:=hide (show (rowF (iv (Y 0)) 21).size=21 from rowF_size _ _)
 have I2:=hide (show (rowF (iv (Y 2)) 256).size=256 from rowF_size _ _)
 have J9:=hide (show (Tryz.prog.info? 44).map (·.size)=some (rowF (iv (Y 9)) 8).size by rw [rowF_size];kernel_rfl)
 have J9b:=hide (show (Tryz.prog.info? 43).map (·.size)=some (rowF (iv (Y 9)) 8).size by rw [rowF_size];kernel_rfl)
 have J0:=hide (show (Tryz.prog.info? 36).map (·.size)=some (rowF (iv (Y 0)) 21).size by rw [rowF_size];kernel_rfl)
 have J0b:=hide (show (Tryz.prog.info? 69).map (·.size)=some (rowF (iv (Y 0)) 21).size by rw [rowF_size];kernel_rfl)
 have J2:=hide (show (Tryz.prog.info? 38).map (·.size)=some (rowF (iv (Y 2)) 256).size by rw [rowF_size];kernel_rfl)
 clear I9 I0 I2
 generalize rowF (iv (Y 9)) 8=A9 at *
 generalize rowF (iv (Y 0)) 21=A0 at *
 generalize rowF (iv (Y 2)) 256=A2 at *
 obtain ⟨o4,h4⟩:∃o4,isB (Y 4 0)=o4:=⟨_,rfl⟩
 obtain ⟨o5,h5⟩:∃o5,isB (Y 5 0)=o5:=⟨_,rfl⟩
 rw [h4] at a4 e9
 rw [h5] at a5 e10
 clear h4 h5
 haveI:=kept_some w2
 refine wp_region_kept (by kernel_rfl) (by kernel_rfl) ?_
 dsimp only [List.append_eq,List.cons_append,List.nil_append]
 repeat (first
  |(refine wpQuiet_mid rfl 44 (.tmp 36) rfl b 8475 rfl A9 _ (fun w' ⟨x,hx⟩=>by rw [hx];intro j y hy;rw [x.cell b _ LB.out];exact R9.out j y hy) Tryz.underlying44 rfl J9.out ?_;simp only [Act.put,List.setIfInBounds_toArray,List.set_cons_succ,List.set_cons_zero])
  |(refine wpQuiet_mid rfl 43 (.tmp 40) rfl b' 4 rfl A9 _ (fun w' ⟨x,hx⟩=>by rw [hx];intro j y hy;rw [x.cell b' _ LY.out];exact S4.out j y hy) Tryz.underlying43 rfl J9b.out ?_;simp only [Act.put,List.setIfInBounds_toArray,List.set_cons_succ,List.set_cons_zero])
  |(refine wpQuiet_mid rfl 36 (.tmp 48) rfl b 0 rfl A0 _ (fun w' ⟨x,hx⟩=>by rw [hx];intro j y hy;rw [x.cell b _ LB.out];exact R0.out j y hy) Tryz.underlying36 rfl J0.out ?_;simp only [Act.put,List.setIfInBounds_toArray,List.set_cons_succ,List.set_cons_zero])
  |(refine wpQuiet_mid rfl 69 (.tmp 52) rfl b' 12 rfl A0 _ (fun w' ⟨x,hx⟩=>by rw [hx];intro j y hy;rw [x.cell b' _ LY.out];exact S5.out j y hy) Tryz.underlying69 rfl J0b.out ?_;simp only [Act.put,List.setIfInBounds_toArray,List.set_cons_succ,List.set_cons_zero])
  |(refine wpQuiet_mid rfl 38 (.tmp 60) rfl b 22 rfl A2 _ (fun w' ⟨x,hx⟩=>by rw [hx];intro j y hy;rw [x.cell b _ LB.out];exact R2.out j y hy) Tryz.underlying38 rfl J2.out ?_;simp only [Act.put,List.setIfInBounds_toArray,List.set_cons_succ,List.set_cons_zero])
  |(refine wpQuiet_mid rfl 38 (.tmp 64) rfl b' 34 rfl A2 _ (fun w' ⟨x,hx⟩=>by rw [hx];intro j y hy;rw [x.cell b' _ LY.out];exact S7.out j y hy) Tryz.underlying38 rfl J2.out ?_;simp only [Act.put,List.setIfInBounds_toArray,List.set_cons_succ,List.set_cons_zero])
  |go_big_quiet_step (fail))
 refine wpQuiet_nil ?_
 rintro _ ⟨wk,rfl⟩
 apply HQ.out
end Go.Proofs.YtnllcknfmciebaaGreatDoor.L24
namespace Go.Proofs.YtnllcknfmciebaaGreatDoor.L24
set_option maxRecDepth 20000
open B4 C3 D24 G6 I11 J23 M5 P22 R15 T10 V12 W13
open Go.RowKit
set_option linter.unusedVariables false
set_option maxHeartbeats 8000000 in
theorem like_r5 {u2 u3 u4 u5 u6 u7 u8 u9 u10 u11 u12 u13 u14 u15 u16 u17 u18 u19 u20 u21 u22 u23 u24 u25 u26 u27 u28 u29 u30 u31 u32 u33 u34 u35 u36 u37 u38 u39 u40 u41 u42 u43 u44 u45 u46 u47 u48 u49 u50 u51 u52 u53 u54 u55 u56 u57 u58 u59 u60 u61 u62 u63 u64 u65 u66 u67 u68 u69 u70 u71 u72 u73 u74 u75 u76 u77 u78 u79 u80 u81 u82 u83 u84 u85 u86 u87 u88 u89 u90 u91 u92 u93 u94 u95 u96 u97 u98 u99 u100 u101 u102 u103 u104 u105 u106 u107 u108 u109 u110 u111 u112 u113 u114 u115 u116 u117 u118 u119 u120 u121 u122 u123 u124 u125 u126 u127 u128 u129 u130 u131 u132 u133 u134 u135 u136 u137 u138 u139 u140 u141 u142 u143 u144 u145 u146 u147 u148 u149 u150 u151 u152 u153 u154 u155 u156 u157 u158 u159 u160 u161 u162 u163 u164 u165 u166 u167 u168 u169 u170 u171 u172 u173 u174 u175 u176 u177 u178 u179 u180 u181 u182 u183 u184 u185 u186 u187 u188 u189 u190 u191 u192 u193 u194 u195 u196 u197 u198 u199 u200 u201 u202 u203 u204 u205 u206 u207 u208 u209 u210 u211 u212 u213 u214 u215 u216 u217 u218 u219 u220 u221 u222 u223 u224 u225 u226:Value} {w3:World} {b v c d b' c' d' r:Nat} {bs:List Int} {P:Int} {sl:Value} {Y:Nat→Nat→Int} (x0:HasP w3 b v c d bs Y) (y0:HasD w3 b' c' d' r P sl Y) (Q:Exit→Act→World→Prop)
  (q0:∀(x104 x105 x106 x107 x108 x109 x110 x111 x112 x113 x114 x115 x116 x117 x118 x119 x120 x121 x122 x123 x124 x125 x126 x127 x128 x129 x130 x131 x132 x133 x134 x135 x136 x137 x138 x139 x140 x141 x142 x143 x144 x145 x146 x147 x148 x149 x150 x151 x152 x153 x154 x155 x156 x157 x158 x159 x160 x161 x162 x163 x164 x165 x166 x167 x168 x169 x170 x171 x172:Value) (wk:Kept w3),Q .normal ⟨#[.pointer (some ⟨b,0,none⟩),.pointer (some ⟨b',0,none⟩),u2,u3,u4,u5,u6,u7,u8,u9,u10,u11,u12,u13,u14,u15,u16,u17,u18,u19,u20,u21,u22,u23,u24,u25,u26,u27,u28,u29,u30,u31,u32,u33,u34,u35,u36,u37,u38,u39,u40,u41,u42,u43,u44,u45,u46,u47,u48,u49,u50,u51,u52,u53,u54,u55,u56,u57,u58,u59,u60,u61,u62,u63,u64,u65,u66,u67,u68,u69,u70,u71,u72,u73,u74,u75,u76,u77,u78,u79,u80,u81,u82,u83,u84,u85,u86,u87,u88,u89,u90,u91,u92,u93,u94,u95,u96,u97,u98,u99,u100,u101,u102,u103,x104,x105,x106,x107,x108,x109,x110,x111,x112,x113,x114,x115,x116,x117,x118,x119,x120,x121,x122,x123,x124,x125,x126,x127,x128,x129,x130,x131,x132,x133,x134,x135,x136,x137,x138,x139,x140,x141,x142,x143,x144,x145,x146,x147,x148,x149,x150,x151,x152,x153,x154,x155,x156,x157,x158,x159,x160,x161,x162,x163,x164,x165,x166,x167,x168,x169,x170,x171,x172,.bool false,u174,u175,u176,u177,u178,u179,u180,u181,u182,u183,u184,u185,u186,u187,u188,u189,u190,u191,u192,u193,u194,u195,u196,u197,u198,u199,u200,u201,u202,u203,u204,u205,u206,u207,u208,u209,u210,u211,u212,u213,u214,u215,u216,u217,u218,u219,u220,u221,u222,u223,u224,u225,u226],[]⟩ wk.val):Code.wp Tryz.prog ((Tryz.f5.body.bind (findRegion 5)).getD .skip) Q ⟨#[.pointer (some ⟨b,0,none⟩),.pointer (some ⟨b',0,none⟩),u2,u3,u4,u5,u6,u7,u8,u9,u10,u11,u12,u13,u14,u15,u16,u17,u18,u19,u20,u21,u22,u23,u24,u25,u26,u27,u28,u29,u30,u31,u32,u33,u34,u35,u36,u37,u38,u39,u40,u41,u42,u43,u44,u45,u46,u47,u48,u49,u50,u51,u52,u53,u54,u55,u56,u57,u58,u59,u60,u61,u62,u63,u64,u65,u66,u67,u68,u69,u70,u71,u72,u73,u74,u75,u76,u77,u78,u79,u80,u81,u82,u83,u84,u85,u86,u87,u88,u89,u90,u91,u92,u93,u94,u95,u96,u97,u98,u99,u100,u101,u102,u103,u104,u105,u106,u107,u108,u109,u110,u111,u112,u113,u114,u115,u116,u117,u118,u119,u120,u121,u122,u123,u124,u125,u126,u127,u128,u129,u130,u131,u132,u133,u134,u135,u136,u137,u138,u139,u140,u141,u142,u143,u144,u145,u146,u147,u148,u149,u150,u151,u152,u153,u154,u155,u156,u157,u158,u159,u160,u161,u162,u163,u164,u165,u166,u167,u168,u169,u170,u171,u172,u173,u174,u175,u176,u177,u178,u179,u180,u181,u182,u183,u184,u185,u186,u187,u188,u189,u190,u191,u192,u193,u194,u195,u196,u197,u198,u199,u200,u201,u202,u203,u204,u205,u206,u207,u208,u209,u210,u211,u212,u213,u214,u215,u216,u217,u218,u219,u220,u221,u222,u223,u224,u225,u226],[]⟩ w3:=by
 have X3:=hide x0
 have Y3:=hide y0
 have HQ:=hide q0
 clear x0 y0 q0
 conv=>arg 2;whnf
 have LB:=hide X3.out.1.lt
 have LY:=hide Y3.out.1.lt
 have a16:=kept_cell (X3.out.1.get1 16 rfl (a:=9261) (X3.out.isB.off 16 rfl) (by decide)) X3.out.1.lt
 have e14:=kept_cell (Y3.out.1.get1 14 rfl (a:=1055) (Y3.out.2.2.2.1.off 14 rfl) (by decide)) Y3.out.1.lt
 have e15:=kept_cell (Y3.out.1.get1 15 rfl (a:=1056) (Y3.out.2.2.2.1.off 15 rfl) (by decide)) Y3.out.1.lt
 have e18:=kept_cell (Y3.out.1.get1 18 rfl (a:=1071) (Y3.out.2.2.2.1.off 18 rfl) (by decide)) Y3.out.1.lt
 have R10:=hide (range_seg X3.out.1 10 rfl (a:=8483) (X3.out.isB.off 10 rfl) (by decide))
 have S11:=hide (range_seg Y3.out.1 11 rfl (a:=293) (Y3.out.2.2.2.1.off 11 rfl) (by decide))
 have R11:=hide (range_seg X3.out.1 11 rfl (a:=8997) (X3.out.isB.off 11 rfl) (by decide))
 have S12:=hide (range_seg Y3.out.1 12 rfl (a:=807) (Y3.out.2.2.2.1.off 12 rfl) (by decide))
 have R12:=hide (range_seg X3.out.1 12 rfl (a:=9241) (X3.out.isB.off 12 rfl) (by decide))
 have S13:=hide (range_seg Y3.out.1 13 rfl (a:=1051) (Y3.out.2.2.2.1.off 13 rfl) (by decide))
 have R13:=hide (show w3.rangeAt b 9245 (#[.int .i64 (Y 13 0),.int .i64 (Y 13 1)]:Array Value).toList from range_seg X3.out.1 13 rfl (a:=9245) (X3.out.isB.off 13 rfl) (by decide))
 have R14:=hide (range_seg X3.out.1 14 rfl (a:=9247) (X3.out.isB.off 14 rfl) (by decide))
 have S16:=hide (range_seg Y3.out.1 16 rfl (a:=1057) (Y3.out.2.2.2.1.off 16 rfl) (by decide))
 have E10:=neq_vce (Y 10)
 have E11:=neq_psg (Y 11)
 have E12:=show ∀w:World,(binOp .neq 76 (.agg (rowF (tvZ (Y 12)) 4)) (.agg (rowF (tvZ (Y 12)) 4))).run Tryz.prog w=.ok (.bool false) w from neq_tim _ _ _ _
 have E13:=neq_irq (Y 13 0) (Y 13 1)
 have E14:=show ∀w:World,(binOp .neq 77 (.agg (rowF (pvZ (Y 14)) 4)) (.agg (rowF (pvZ (Y 14)) 4))).run Tryz.prog w=.ok (.bool false) w from neq_port _ _ _ _
 have OW:=hide (own_any (Y 11))
 have J10:=hide (show (Tryz.prog.info? 47).map (·.size)=some (rowF (iv (Y 10)) 514).size by rw [rowF_size];kernel_rfl)
 have J10b:=hide (show (Tryz.prog.info? 71).map (·.size)=some (rowF (iv (Y 10)) 514).size by rw [rowF_size];kernel_rfl)
 have J11:=hide (show (Tryz.prog.info? 53).map (·.size)=some (rowF (iv (Y 11)) 244).size by rw [rowF_size];kernel_rfl)
 have J11b:=hide (show (Tryz.prog.info? 75).map (·.size)=some (rowF (iv (Y 11)) 244).size by rw [rowF_size];kernel_rfl)
 have J12:=hide (show (Tryz.prog.info? 55).map (·.size)=some (rowF (tvZ (Y 12)) 4).size by rw [rowF_size];kernel_rfl)
 have J12b:=hide (show (Tryz.prog.info? 76).map (·.size)=some (rowF (tvZ (Y 12)) 4).size by rw [rowF_size];kernel_rfl)
 have J14:=hide (show (Tryz.prog.info? 59).map (·.size)=some (rowF (pvZ (Y 14)) 4).size by rw [rowF_size];kernel_rfl)
 have J14b:=hide (show (Tryz.prog.info? 77).map (·.size)=some (rowF (pvZ (Y 14)) 4).size by rw [rowF_size];kernel_rfl)
 have J13:=hide (show (Tryz.prog.info? 57).map (·.size)=some (#[.int .i64 (Y 13 0),.int .i64 (Y 13 1)]:Array Value).size by kernel_rfl)
 generalize rowF (iv (Y 10)) 514=A10 at *
 generalize rowF (iv (Y 11)) 244=A11 at *
 generalize rowF (tvZ (Y 12)) 4=A12 at *
 generalize rowF (pvZ (Y 14)) 4=A14 at *
 haveI:=kept_some w3
 refine wp_region_kept (by kernel_rfl) (by kernel_rfl) ?_
 dsimp only [List.append_eq,List.cons_append,List.nil_append]
 repeat (first
  |(refine wpQuiet_mid rfl 47 (.tmp 106) rfl b 8483 rfl A10 _ (fun w' ⟨x,hx⟩=>by rw [hx];intro j y hy;rw [x.cell b _ LB.out];exact R10.out j y hy) Tryz.underlying47 rfl J10.out ?_;simp only [Act.put,List.setIfInBounds_toArray,List.set_cons_succ,List.set_cons_zero])
  |(refine wpQuiet_mid rfl 71 (.tmp 110) rfl b' 293 rfl A10 _ (fun w' ⟨x,hx⟩=>by rw [hx];intro j y hy;rw [x.cell b' _ LY.out];exact S11.out j y hy) Tryz.underlying71 rfl J10b.out ?_;simp only [Act.put,List.setIfInBounds_toArray,List.set_cons_succ,List.set_cons_zero])
  |(refine wpQuiet_mid rfl 53 (.tmp 116) rfl b 8997 rfl A11 _ (fun w' ⟨x,hx⟩=>by rw [hx];intro j y hy;rw [x.cell b _ LB.out];exact R11.out j y hy) Tryz.underlying53 rfl J11.out ?_;simp only [Act.put,List.setIfInBounds_toArray,List.set_cons_succ,List.set_cons_zero])
  |(refine wpQuiet_mid rfl 75 (.tmp 121) rfl b' 807 rfl A11 _ (fun w' ⟨x,hx⟩=>by rw [hx];intro j y hy;rw [x.cell b' _ LY.out];exact S12.out j y hy) Tryz.underlying75 rfl J11b.out ?_;simp only [Act.put,List.setIfInBounds_toArray,List.set_cons_succ,List.set_cons_zero])
  |(refine wpQuiet_mid rfl 55 (.tmp 128) rfl b 9241 rfl A12 _ (fun w' ⟨x,hx⟩=>by rw [hx];intro j y hy;rw [x.cell b _ LB.out];exact R12.out j y hy) Tryz.underlying55 rfl J12.out ?_;simp only [Act.put,List.setIfInBounds_toArray,List.set_cons_succ,List.set_cons_zero])
  |(refine wpQuiet_mid rfl 76 (.tmp 132) rfl b' 1051 rfl A12 _ (fun w' ⟨x,hx⟩=>by rw [hx];intro j y hy;rw [x.cell b' _ LY.out];exact S13.out j y hy) Tryz.underlying76 rfl J12b.out ?_;simp only [Act.put,List.setIfInBounds_toArray,List.set_cons_succ,List.set_cons_zero])
  |(refine wpQuiet_mid rfl 57 (.tmp 139) rfl b 9245 rfl #[.int .i64 (Y 13 0),.int .i64 (Y 13 1)] _ (fun w' ⟨x,hx⟩=>by rw [hx];intro j y hy;rw [x.cell b _ LB.out];exact R13.out j y hy) Tryz.underlying57 rfl J13.out ?_;simp only [Act.put,List.setIfInBounds_toArray,List.set_cons_succ,List.set_cons_zero])
  |(refine wpQuiet_mid rfl 59 (.tmp 155) rfl b 9247 rfl A14 _ (fun w' ⟨x,hx⟩=>by rw [hx];intro j y hy;rw [x.cell b _ LB.out];exact R14.out j y hy) Tryz.underlying59 rfl J14.out ?_;simp only [Act.put,List.setIfInBounds_toArray,List.set_cons_succ,List.set_cons_zero])
  |(refine wpQuiet_mid rfl 77 (.tmp 159) rfl b' 1057 rfl A14 _ (fun w' ⟨x,hx⟩=>by rw [hx];intro j y hy;rw [x.cell b' _ LY.out];exact S16.out j y hy) Tryz.underlying77 rfl J14b.out ?_;simp only [Act.put,List.setIfInBounds_toArray,List.set_cons_succ,List.set_cons_zero])
  |go_big_quiet_step ((go_at_call 21;exact kept_call (OW.out _))))
 refine wpQuiet_nil ?_
 rintro _ ⟨wk,rfl⟩
 apply HQ.out
end Go.Proofs.YtnllcknfmciebaaGreatDoor.L24
