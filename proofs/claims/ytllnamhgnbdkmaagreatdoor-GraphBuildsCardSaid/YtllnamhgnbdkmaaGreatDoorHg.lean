/-
Stage 11: the ways of GraphBuilds' switch, walked.
-/
import Derived.Test.YtllnamhgnbdkmaaGreatDoorHf
set_option linter.unusedVariables false
set_option linter.unusedSimpArgs false
namespace Go.Proofs.YtllnamhgnbdkmaaGreatDoor
open Go.RowKit Go.Shelf Go.Sort
def findBlock (k : Nat) : Code → Option Code
  | .block n c => if n = k then some (.block n c) else findBlock k c
  | .seq a b => match findBlock k a with
    | some c => some c
    | none => findBlock k b
  | .loop c => findBlock k c
  | .scope c => findBlock k c
  | .cond _ a b => match findBlock k a with
    | some c => some c
    | none => findBlock k b
  | _ => none
def onN (Q : Exit → Act → World → Prop) : Exit → Act → World → Prop
  | .normal, a, w => Q .normal a w
  | _, _, _ => False
theorem onN_mono {P : Program} {c : Code} {Q : Exit → Act → World → Prop} {a : Act} {w : World} (h : Code.wp P c (onN Q) a w) : Code.wp P c Q a w := wp_mono h fun e a w h => by
  cases e <;> first | exact h | exact False.elim h
noncomputable def blk2 : Code := ((Tryz.f6.body.bind (findBlock 2)).getD .skip)
set_option maxRecDepth 1000000 in
set_option maxHeartbeats 8000000 in
theorem way1_any {w W6 : World} {NB TB LB BB B d : Nat} {n : Gn} {IA SA A VA UA A3 : Option Addr} {ic sc c vc uc c3 : Nat} {S : Nat → Prop} {pv bv : Value} {cs3 : List Value} {L : List Gn} {s0 s1 s2 s4 s5 s11 s13 s14 s15 s16 s17 s18 s19 s20 s21 s22 s23 s24 s25 s26 s27 s28 s29 s30 s31 s32 s33 s34 s35 s36 s37 s38 s39 s40 s41 s42 s43 s44 s45 s46 s47 s48 s49 s50 s51 s52 s53 s54 s55 s56 s57 s58 s60 s61 s62 s63 s64 s65 s66 s67 s68 s69 s70 s71 s72 s73 s74 s75 s76 s77 s78 s79 s80 s81 s82 s83 s84 s85 s86 s87 s88 s89 s90 s91 s92 s93 s94 s95 s96 s97 s98 s99 s100 s101 s102 s103 s104 s105 s106 s107 s108 s109 s110 s111 s112 s113 s114 s115 s116 s117 s118 s119 s120 s121 s122 s123 s124 s125 s126 s127 s128 s129 s130 s131 s132 s133 s134 s135 s136 s137 s138 s139 s140 s141 s142 s143 s144 s145 s146 s147 s148 s149 s150 s151 s152 s153 s154 s155 s156 s157 s158 s159 s160 s161 s162 s163 s164 s165 s166 s167 s168 s169 s170 s171 s172 s173 s174 s175 s176 s177 s178 s179 s180 s181 s182 s183 s184 s185 s186 s187 s188 s189 s190 s191 s192 s193 s194 s195 s196 s197 s198 s199 s200 s201 s202 s203 s204 : Value} {Q : Exit → Act → World → Prop}
    (hmid : Mid w W6 NB TB LB BB B d n IA SA A ic sc c (inOf n) pv bv (.slice VA n.side.length vc) (.slice UA n.ins.length uc) (.slice A3 n.ty.args.length c3) cs3 L L) (hxm : W6.heap[LB + 1]? = some (.cells #[.int .i64 n.op, .slice (some ⟨LB, 0, none⟩) 1 1, .slice none 0 0, .string ⟨#[]⟩, .int .i64 0, .slice none 0 0, .int .i64 0, .int .i64 0, .int .i64 0, .int .i64 0, .int .i64 0, .int .i64 0, .int .i64 0, .bool false] 51 (0, 0))) (hll : (L.map madeN).length ≤ 1000) (hcc : ∀ b, ((NB ≤ b ∧ b ≤ LB + 1) ∨ pv.ownBlock = some b) → b < W6.heap.size)
    (ht6 : TyAt W6 (fun _ => True) d (.agg #[.int .i64 n.ty.kind, .slice A3 n.ty.args.length c3]) n.ty) (hg6 : Gk W6) (hsj : SmN n)
    (hgi : IntsAt w S (.slice IA n.ins.length ic) n.ins ∧ IntsAt w S (.slice SA n.side.length sc) n.side ∧ TyAt w S d (.agg #[.int .i64 n.ty.kind, .slice A n.ty.args.length c]) n.ty) (ho : n.op = 1)
    (hexit : ∀ (u60 u61 u62 u63 u64 u65 u66 u67 u68 u69 u70 u71 u72 u73 u74 u75 u76 u77 u78 u79 u80 u81 u82 u83 u84 u85 u86 u87 u88 u89 u90 u91 u92 u93 u94 u95 u96 u97 u98 u99 u100 u101 u102 u103 u104 u105 u106 u107 u108 u109 u110 u111 u112 u113 u114 u115 u116 u117 u118 u119 : Value) (wx : World), Sw w NB TB LB BB B d n IA SA A ic sc c (inOf n) pv (.slice VA n.side.length vc) (.slice UA n.ins.length uc) (.slice A3 n.ty.args.length c3) cs3 L wx → Q .normal ⟨#[s0, s1, s2, .pointer (some ⟨BB, 0, none⟩), s4, s5, .pointer (some ⟨NB, 0, none⟩), .int .i64 (inOf n), .pointer (some ⟨TB, 0, none⟩), .slice VA n.side.length vc, .slice UA n.ins.length uc, .int .i64 (L.length : Int), .pointer (some ⟨LB + 1, 0, none⟩), s13, s14, s15, s16, s17, s18, s19, s20, s21, s22, s23, s24, s25, s26, s27, s28, s29, s30, s31, s32, s33, s34, s35, s36, s37, s38, s39, s40, s41, s42, s43, s44, s45, s46, s47, s48, s49, s50, s51, s52, s53, s54, s55, s56, s57, s58, .int .i64 n.op, u60, u61, u62, u63, u64, u65, u66, u67, u68, u69, u70, u71, u72, u73, u74, u75, u76, u77, u78, u79, u80, u81, u82, u83, u84, u85, u86, u87, u88, u89, u90, u91, u92, u93, u94, u95, u96, u97, u98, u99, u100, u101, u102, u103, u104, u105, u106, u107, u108, u109, u110, u111, u112, u113, u114, u115, u116, u117, u118, u119, s120, s121, s122, s123, s124, s125, s126, s127, s128, s129, s130, s131, s132, s133, s134, s135, s136, s137, s138, s139, s140, s141, s142, s143, s144, s145, s146, s147, s148, s149, s150, s151, s152, s153, s154, s155, s156, s157, s158, s159, s160, s161, s162, s163, s164, s165, s166, s167, s168, s169, s170, s171, s172, s173, s174, s175, s176, s177, s178, s179, s180, s181, s182, s183, s184, s185, s186, s187, s188, s189, s190, s191, s192, s193, s194, s195, s196, s197, s198, s199, s200, s201, s202, s203, s204], []⟩ wx) :
    Code.wp Tryz.prog blk2 Q ⟨#[s0, s1, s2, .pointer (some ⟨BB, 0, none⟩), s4, s5, .pointer (some ⟨NB, 0, none⟩), .int .i64 (inOf n), .pointer (some ⟨TB, 0, none⟩), .slice VA n.side.length vc, .slice UA n.ins.length uc, s11, .pointer (some ⟨LB + 1, 0, none⟩), s13, s14, s15, s16, s17, s18, s19, s20, s21, s22, s23, s24, s25, s26, s27, s28, s29, s30, s31, s32, s33, s34, s35, s36, s37, s38, s39, s40, s41, s42, s43, s44, s45, s46, s47, s48, s49, s50, s51, s52, s53, s54, s55, s56, s57, s58, .int .i64 n.op, s60, s61, s62, s63, s64, s65, s66, s67, s68, s69, s70, s71, s72, s73, s74, s75, s76, s77, s78, s79, s80, s81, s82, s83, s84, s85, s86, s87, s88, s89, s90, s91, s92, s93, s94, s95, s96, s97, s98, s99, s100, s101, s102, s103, s104, s105, s106, s107, s108, s109, s110, s111, s112, s113, s114, s115, s116, s117, s118, s119, s120, s121, s122, s123, s124, s125, s126, s127, s128, s129, s130, s131, s132, s133, s134, s135, s136, s137, s138, s139, s140, s141, s142, s143, s144, s145, s146, s147, s148, s149, s150, s151, s152, s153, s154, s155, s156, s157, s158, s159, s160, s161, s162, s163, s164, s165, s166, s167, s168, s169, s170, s171, s172, s173, s174, s175, s176, s177, s178, s179, s180, s181, s182, s183, s184, s185, s186, s187, s188, s189, s190, s191, s192, s193, s194, s195, s196, s197, s198, s199, s200, s201, s202, s203, s204], []⟩ W6 := by
  have HMID := Lib.hid hmid
  have HXM := Lib.hid hxm
  have HLL := Lib.hid hll
  have HCC := Lib.hid hcc
  have HT6 := Lib.hid ht6
  have HG6 := Lib.hid hg6
  have HSj := Lib.hid hsj
  have HTX := Lib.hid hsj.text
  have HGI := Lib.hid hgi
  have HEX := Lib.hid hexit
  have HBL6 := Lib.hid hmid.bld
  have HVS6 := Lib.hid hmid.fs
  have HVI6 := Lib.hid hmid.fi
  have HN6 := Lib.hid hmid.node
  have HX86 := Lib.hid hmid.tb
  have nl6 := cell_lt hmid.node
  have tl6 := cell_lt hmid.tb
  have HOP := Lib.hid ho
  have e1 : (n.op == 1) = true := by rw [ho]; rfl
  clear ho hmid hxm hll hcc ht6 hg6 hsj hgi hexit
  have t0 := cellN (i := 0) (x := .int .i64 n.ty.kind) HX86.out rfl
  have t1 := cellN (i := 1) (x := .slice A3 n.ty.args.length c3) HX86.out rfl
  refine onN_mono ?_
  conv => arg 2; whnf
  go_wp2_with (first
    | (go_at_call 29; (with_reducible refine (source_any _ _ _ _ _ n.ty A3 c3 d _ _ HCC.out HBL6.out HLL.out HT6.out HG6.out).mono ?_); rintro e w7 hl7; obtain ⟨rfl, hm7, bv7, hmid7⟩ := HMID.out.lay hl7 HXM.out; have HM7 := Lib.hid hm7; have HMID7 := Lib.hid hmid7; have n4 := cellN (i := 4) (x := .int .i64 n.ty.kind) hmid7.node rfl; have n5 := cellN (i := 5) (x := .slice A n.ty.args.length c) hmid7.node rfl; have m0 := cellN (i := 0) (x := .int .i64 n.op) hm7 rfl; have z0 := frozN (i := 0) hm7; have m1 := cellN (i := 1) (x := .slice (some ⟨LB, 0, none⟩) 1 1) hm7 rfl; have z1 := frozN (i := 1) hm7; have m2 := cellN (i := 2) (x := .slice none 0 0) hm7 rfl; have z2 := frozN (i := 2) hm7; have m3 := cellN (i := 3) (x := .string ⟨#[]⟩) hm7 rfl; have z3 := frozN (i := 3) hm7; have m4 := cellN (i := 4) (x := .int .i64 0) hm7 rfl; have z4 := frozN (i := 4) hm7; have m5 := cellN (i := 5) (x := .slice none 0 0) hm7 rfl; have z5 := frozN (i := 5) hm7; have m6 := cellN (i := 6) (x := .int .i64 0) hm7 rfl; have z6 := frozN (i := 6) hm7; have m7 := cellN (i := 7) (x := .int .i64 0) hm7 rfl; have z7 := frozN (i := 7) hm7; have m8 := cellN (i := 8) (x := .int .i64 0) hm7 rfl; have z8 := frozN (i := 8) hm7; have m9 := cellN (i := 9) (x := .int .i64 0) hm7 rfl; have z9 := frozN (i := 9) hm7; have m10 := cellN (i := 10) (x := .int .i64 0) hm7 rfl; have z10 := frozN (i := 10) hm7; have m11 := cellN (i := 11) (x := .int .i64 0) hm7 rfl; have z11 := frozN (i := 11) hm7; have m12 := cellN (i := 12) (x := .int .i64 0) hm7 rfl; have z12 := frozN (i := 12) hm7; have m13 := cellN (i := 13) (x := .bool false) hm7 rfl; have z13 := frozN (i := 13) hm7; have ml := cell_lt hm7; have nl7 := cell_lt hmid7.node; clear hl7 hm7 hmid7)
    | fail)
  exact HEX.out _ _ _ _ _ _ _ _ _ _ _ _ _ _ _ _ _ _ _ _ _ _ _ _ _ _ _ _ _ _ _ _ _ _ _ _ _ _ _ _ _ _ _ _ _ _ _ _ _ _ _ _ _ _ _ _ _ _ _ _ _ (way1_end HMID7.out HM7.out HOP.out rfl HGI.out)
set_option maxRecDepth 1000000 in
set_option maxHeartbeats 8000000 in
theorem way2_any {w W6 : World} {NB TB LB BB B d : Nat} {n : Gn} {IA SA A VA UA A3 : Option Addr} {ic sc c vc uc c3 : Nat} {S : Nat → Prop} {pv bv : Value} {cs3 : List Value} {L : List Gn} {s0 s1 s2 s4 s5 s11 s13 s14 s15 s16 s17 s18 s19 s20 s21 s22 s23 s24 s25 s26 s27 s28 s29 s30 s31 s32 s33 s34 s35 s36 s37 s38 s39 s40 s41 s42 s43 s44 s45 s46 s47 s48 s49 s50 s51 s52 s53 s54 s55 s56 s57 s58 s60 s61 s62 s63 s64 s65 s66 s67 s68 s69 s70 s71 s72 s73 s74 s75 s76 s77 s78 s79 s80 s81 s82 s83 s84 s85 s86 s87 s88 s89 s90 s91 s92 s93 s94 s95 s96 s97 s98 s99 s100 s101 s102 s103 s104 s105 s106 s107 s108 s109 s110 s111 s112 s113 s114 s115 s116 s117 s118 s119 s120 s121 s122 s123 s124 s125 s126 s127 s128 s129 s130 s131 s132 s133 s134 s135 s136 s137 s138 s139 s140 s141 s142 s143 s144 s145 s146 s147 s148 s149 s150 s151 s152 s153 s154 s155 s156 s157 s158 s159 s160 s161 s162 s163 s164 s165 s166 s167 s168 s169 s170 s171 s172 s173 s174 s175 s176 s177 s178 s179 s180 s181 s182 s183 s184 s185 s186 s187 s188 s189 s190 s191 s192 s193 s194 s195 s196 s197 s198 s199 s200 s201 s202 s203 s204 : Value} {Q : Exit → Act → World → Prop}
    (hmid : Mid w W6 NB TB LB BB B d n IA SA A ic sc c (inOf n) pv bv (.slice VA n.side.length vc) (.slice UA n.ins.length uc) (.slice A3 n.ty.args.length c3) cs3 L L) (hxm : W6.heap[LB + 1]? = some (.cells #[.int .i64 n.op, .slice (some ⟨LB, 0, none⟩) 1 1, .slice none 0 0, .string ⟨#[]⟩, .int .i64 0, .slice none 0 0, .int .i64 0, .int .i64 0, .int .i64 0, .int .i64 0, .int .i64 0, .int .i64 0, .int .i64 0, .bool false] 51 (0, 0))) (hll : (L.map madeN).length ≤ 1000) (hcc : ∀ b, ((NB ≤ b ∧ b ≤ LB + 1) ∨ pv.ownBlock = some b) → b < W6.heap.size)
    (ht6 : TyAt W6 (fun _ => True) d (.agg #[.int .i64 n.ty.kind, .slice A3 n.ty.args.length c3]) n.ty) (hg6 : Gk W6) (hsj : SmN n)
    (hgi : IntsAt w S (.slice IA n.ins.length ic) n.ins ∧ IntsAt w S (.slice SA n.side.length sc) n.side ∧ TyAt w S d (.agg #[.int .i64 n.ty.kind, .slice A n.ty.args.length c]) n.ty) (ho : n.op = 2)
    (hexit : ∀ (u60 u61 u62 u63 u64 u65 u66 u67 u68 u69 u70 u71 u72 u73 u74 u75 u76 u77 u78 u79 u80 u81 u82 u83 u84 u85 u86 u87 u88 u89 u90 u91 u92 u93 u94 u95 u96 u97 u98 u99 u100 u101 u102 u103 u104 u105 u106 u107 u108 u109 u110 u111 u112 u113 u114 u115 u116 u117 u118 u119 : Value) (wx : World), Sw w NB TB LB BB B d n IA SA A ic sc c (inOf n) pv (.slice VA n.side.length vc) (.slice UA n.ins.length uc) (.slice A3 n.ty.args.length c3) cs3 L wx → Q .normal ⟨#[s0, s1, s2, .pointer (some ⟨BB, 0, none⟩), s4, s5, .pointer (some ⟨NB, 0, none⟩), .int .i64 (inOf n), .pointer (some ⟨TB, 0, none⟩), .slice VA n.side.length vc, .slice UA n.ins.length uc, .int .i64 (L.length : Int), .pointer (some ⟨LB + 1, 0, none⟩), s13, s14, s15, s16, s17, s18, s19, s20, s21, s22, s23, s24, s25, s26, s27, s28, s29, s30, s31, s32, s33, s34, s35, s36, s37, s38, s39, s40, s41, s42, s43, s44, s45, s46, s47, s48, s49, s50, s51, s52, s53, s54, s55, s56, s57, s58, .int .i64 n.op, u60, u61, u62, u63, u64, u65, u66, u67, u68, u69, u70, u71, u72, u73, u74, u75, u76, u77, u78, u79, u80, u81, u82, u83, u84, u85, u86, u87, u88, u89, u90, u91, u92, u93, u94, u95, u96, u97, u98, u99, u100, u101, u102, u103, u104, u105, u106, u107, u108, u109, u110, u111, u112, u113, u114, u115, u116, u117, u118, u119, s120, s121, s122, s123, s124, s125, s126, s127, s128, s129, s130, s131, s132, s133, s134, s135, s136, s137, s138, s139, s140, s141, s142, s143, s144, s145, s146, s147, s148, s149, s150, s151, s152, s153, s154, s155, s156, s157, s158, s159, s160, s161, s162, s163, s164, s165, s166, s167, s168, s169, s170, s171, s172, s173, s174, s175, s176, s177, s178, s179, s180, s181, s182, s183, s184, s185, s186, s187, s188, s189, s190, s191, s192, s193, s194, s195, s196, s197, s198, s199, s200, s201, s202, s203, s204], []⟩ wx) :
    Code.wp Tryz.prog blk2 Q ⟨#[s0, s1, s2, .pointer (some ⟨BB, 0, none⟩), s4, s5, .pointer (some ⟨NB, 0, none⟩), .int .i64 (inOf n), .pointer (some ⟨TB, 0, none⟩), .slice VA n.side.length vc, .slice UA n.ins.length uc, s11, .pointer (some ⟨LB + 1, 0, none⟩), s13, s14, s15, s16, s17, s18, s19, s20, s21, s22, s23, s24, s25, s26, s27, s28, s29, s30, s31, s32, s33, s34, s35, s36, s37, s38, s39, s40, s41, s42, s43, s44, s45, s46, s47, s48, s49, s50, s51, s52, s53, s54, s55, s56, s57, s58, .int .i64 n.op, s60, s61, s62, s63, s64, s65, s66, s67, s68, s69, s70, s71, s72, s73, s74, s75, s76, s77, s78, s79, s80, s81, s82, s83, s84, s85, s86, s87, s88, s89, s90, s91, s92, s93, s94, s95, s96, s97, s98, s99, s100, s101, s102, s103, s104, s105, s106, s107, s108, s109, s110, s111, s112, s113, s114, s115, s116, s117, s118, s119, s120, s121, s122, s123, s124, s125, s126, s127, s128, s129, s130, s131, s132, s133, s134, s135, s136, s137, s138, s139, s140, s141, s142, s143, s144, s145, s146, s147, s148, s149, s150, s151, s152, s153, s154, s155, s156, s157, s158, s159, s160, s161, s162, s163, s164, s165, s166, s167, s168, s169, s170, s171, s172, s173, s174, s175, s176, s177, s178, s179, s180, s181, s182, s183, s184, s185, s186, s187, s188, s189, s190, s191, s192, s193, s194, s195, s196, s197, s198, s199, s200, s201, s202, s203, s204], []⟩ W6 := by
  have HMID := Lib.hid hmid
  have HXM := Lib.hid hxm
  have HLL := Lib.hid hll
  have HCC := Lib.hid hcc
  have HT6 := Lib.hid ht6
  have HG6 := Lib.hid hg6
  have HSj := Lib.hid hsj
  have HTX := Lib.hid hsj.text
  have HGI := Lib.hid hgi
  have HEX := Lib.hid hexit
  have HBL6 := Lib.hid hmid.bld
  have HVS6 := Lib.hid hmid.fs
  have HVI6 := Lib.hid hmid.fi
  have HN6 := Lib.hid hmid.node
  have HX86 := Lib.hid hmid.tb
  have nl6 := cell_lt hmid.node
  have tl6 := cell_lt hmid.tb
  have HOP := Lib.hid ho
  have e1 : (n.op == 1) = false := by rw [ho]; rfl
  have e2 : (n.op == 2) = true := by rw [ho]; rfl
  clear ho hmid hxm hll hcc ht6 hg6 hsj hgi hexit
  have n3 := cellN (i := 3) (x := .string ⟨n.text.toArray⟩) HN6.out rfl
  refine onN_mono ?_
  conv => arg 2; whnf
  go_wp2_with (first
    | (go_at_call 30; (with_reducible refine (each_any _ _ _ _ _ (inOf n) n.text n.side VA vc _ _ HCC.out HBL6.out HLL.out HVS6.out.ints (by have := HSj.out.side; omega) (by have := HTX.out; omega) HG6.out).mono ?_); rintro e w7 hl7; obtain ⟨rfl, hm7, bv7, hmid7⟩ := HMID.out.lay hl7 HXM.out; have HM7 := Lib.hid hm7; have HMID7 := Lib.hid hmid7; have n3 := cellN (i := 3) (x := .string ⟨n.text.toArray⟩) hmid7.node rfl; have n2 := cellN (i := 2) (x := .slice SA n.side.length sc) hmid7.node rfl; have m3 := cellN (i := 3) (x := .string ⟨#[]⟩) hm7 rfl; have z3 := frozN (i := 3) hm7; have m2 := cellN (i := 2) (x := .slice none 0 0) hm7 rfl; have z2 := frozN (i := 2) hm7; have ml := cell_lt hm7; have nl7 := cell_lt hmid7.node; clear hl7 hm7 hmid7)
    | fail)
  go_region_law (fail)
  all_goals (
    go_wp2_with (fail)
    first
      | exact HEX.out _ _ _ _ _ _ _ _ _ _ _ _ _ _ _ _ _ _ _ _ _ _ _ _ _ _ _ _ _ _ _ _ _ _ _ _ _ _ _ _ _ _ _ _ _ _ _ _ _ _ _ _ _ _ _ _ _ _ _ _ _ (way2a_end HMID7.out HM7.out HOP.out rfl HGI.out)
      | exact HEX.out _ _ _ _ _ _ _ _ _ _ _ _ _ _ _ _ _ _ _ _ _ _ _ _ _ _ _ _ _ _ _ _ _ _ _ _ _ _ _ _ _ _ _ _ _ _ _ _ _ _ _ _ _ _ _ _ _ _ _ _ _ (way2b_end HMID7.out HM7.out HOP.out rfl HGI.out))
set_option maxRecDepth 1000000 in
set_option maxHeartbeats 8000000 in
theorem way3_any {w W6 : World} {NB TB LB BB B d : Nat} {n : Gn} {IA SA A VA UA A3 : Option Addr} {ic sc c vc uc c3 : Nat} {S : Nat → Prop} {pv bv : Value} {cs3 : List Value} {L : List Gn} {s0 s1 s2 s4 s5 s11 s13 s14 s15 s16 s17 s18 s19 s20 s21 s22 s23 s24 s25 s26 s27 s28 s29 s30 s31 s32 s33 s34 s35 s36 s37 s38 s39 s40 s41 s42 s43 s44 s45 s46 s47 s48 s49 s50 s51 s52 s53 s54 s55 s56 s57 s58 s60 s61 s62 s63 s64 s65 s66 s67 s68 s69 s70 s71 s72 s73 s74 s75 s76 s77 s78 s79 s80 s81 s82 s83 s84 s85 s86 s87 s88 s89 s90 s91 s92 s93 s94 s95 s96 s97 s98 s99 s100 s101 s102 s103 s104 s105 s106 s107 s108 s109 s110 s111 s112 s113 s114 s115 s116 s117 s118 s119 s120 s121 s122 s123 s124 s125 s126 s127 s128 s129 s130 s131 s132 s133 s134 s135 s136 s137 s138 s139 s140 s141 s142 s143 s144 s145 s146 s147 s148 s149 s150 s151 s152 s153 s154 s155 s156 s157 s158 s159 s160 s161 s162 s163 s164 s165 s166 s167 s168 s169 s170 s171 s172 s173 s174 s175 s176 s177 s178 s179 s180 s181 s182 s183 s184 s185 s186 s187 s188 s189 s190 s191 s192 s193 s194 s195 s196 s197 s198 s199 s200 s201 s202 s203 s204 : Value} {Q : Exit → Act → World → Prop}
    (hmid : Mid w W6 NB TB LB BB B d n IA SA A ic sc c (inOf n) pv bv (.slice VA n.side.length vc) (.slice UA n.ins.length uc) (.slice A3 n.ty.args.length c3) cs3 L L) (hxm : W6.heap[LB + 1]? = some (.cells #[.int .i64 n.op, .slice (some ⟨LB, 0, none⟩) 1 1, .slice none 0 0, .string ⟨#[]⟩, .int .i64 0, .slice none 0 0, .int .i64 0, .int .i64 0, .int .i64 0, .int .i64 0, .int .i64 0, .int .i64 0, .int .i64 0, .bool false] 51 (0, 0))) (hll : (L.map madeN).length ≤ 1000) (hcc : ∀ b, ((NB ≤ b ∧ b ≤ LB + 1) ∨ pv.ownBlock = some b) → b < W6.heap.size)
    (ht6 : TyAt W6 (fun _ => True) d (.agg #[.int .i64 n.ty.kind, .slice A3 n.ty.args.length c3]) n.ty) (hg6 : Gk W6) (hsj : SmN n)
    (hgi : IntsAt w S (.slice IA n.ins.length ic) n.ins ∧ IntsAt w S (.slice SA n.side.length sc) n.side ∧ TyAt w S d (.agg #[.int .i64 n.ty.kind, .slice A n.ty.args.length c]) n.ty) (ho : n.op = 3)
    (hexit : ∀ (u60 u61 u62 u63 u64 u65 u66 u67 u68 u69 u70 u71 u72 u73 u74 u75 u76 u77 u78 u79 u80 u81 u82 u83 u84 u85 u86 u87 u88 u89 u90 u91 u92 u93 u94 u95 u96 u97 u98 u99 u100 u101 u102 u103 u104 u105 u106 u107 u108 u109 u110 u111 u112 u113 u114 u115 u116 u117 u118 u119 : Value) (wx : World), Sw w NB TB LB BB B d n IA SA A ic sc c (inOf n) pv (.slice VA n.side.length vc) (.slice UA n.ins.length uc) (.slice A3 n.ty.args.length c3) cs3 L wx → Q .normal ⟨#[s0, s1, s2, .pointer (some ⟨BB, 0, none⟩), s4, s5, .pointer (some ⟨NB, 0, none⟩), .int .i64 (inOf n), .pointer (some ⟨TB, 0, none⟩), .slice VA n.side.length vc, .slice UA n.ins.length uc, .int .i64 (L.length : Int), .pointer (some ⟨LB + 1, 0, none⟩), s13, s14, s15, s16, s17, s18, s19, s20, s21, s22, s23, s24, s25, s26, s27, s28, s29, s30, s31, s32, s33, s34, s35, s36, s37, s38, s39, s40, s41, s42, s43, s44, s45, s46, s47, s48, s49, s50, s51, s52, s53, s54, s55, s56, s57, s58, .int .i64 n.op, u60, u61, u62, u63, u64, u65, u66, u67, u68, u69, u70, u71, u72, u73, u74, u75, u76, u77, u78, u79, u80, u81, u82, u83, u84, u85, u86, u87, u88, u89, u90, u91, u92, u93, u94, u95, u96, u97, u98, u99, u100, u101, u102, u103, u104, u105, u106, u107, u108, u109, u110, u111, u112, u113, u114, u115, u116, u117, u118, u119, s120, s121, s122, s123, s124, s125, s126, s127, s128, s129, s130, s131, s132, s133, s134, s135, s136, s137, s138, s139, s140, s141, s142, s143, s144, s145, s146, s147, s148, s149, s150, s151, s152, s153, s154, s155, s156, s157, s158, s159, s160, s161, s162, s163, s164, s165, s166, s167, s168, s169, s170, s171, s172, s173, s174, s175, s176, s177, s178, s179, s180, s181, s182, s183, s184, s185, s186, s187, s188, s189, s190, s191, s192, s193, s194, s195, s196, s197, s198, s199, s200, s201, s202, s203, s204], []⟩ wx) :
    Code.wp Tryz.prog blk2 Q ⟨#[s0, s1, s2, .pointer (some ⟨BB, 0, none⟩), s4, s5, .pointer (some ⟨NB, 0, none⟩), .int .i64 (inOf n), .pointer (some ⟨TB, 0, none⟩), .slice VA n.side.length vc, .slice UA n.ins.length uc, s11, .pointer (some ⟨LB + 1, 0, none⟩), s13, s14, s15, s16, s17, s18, s19, s20, s21, s22, s23, s24, s25, s26, s27, s28, s29, s30, s31, s32, s33, s34, s35, s36, s37, s38, s39, s40, s41, s42, s43, s44, s45, s46, s47, s48, s49, s50, s51, s52, s53, s54, s55, s56, s57, s58, .int .i64 n.op, s60, s61, s62, s63, s64, s65, s66, s67, s68, s69, s70, s71, s72, s73, s74, s75, s76, s77, s78, s79, s80, s81, s82, s83, s84, s85, s86, s87, s88, s89, s90, s91, s92, s93, s94, s95, s96, s97, s98, s99, s100, s101, s102, s103, s104, s105, s106, s107, s108, s109, s110, s111, s112, s113, s114, s115, s116, s117, s118, s119, s120, s121, s122, s123, s124, s125, s126, s127, s128, s129, s130, s131, s132, s133, s134, s135, s136, s137, s138, s139, s140, s141, s142, s143, s144, s145, s146, s147, s148, s149, s150, s151, s152, s153, s154, s155, s156, s157, s158, s159, s160, s161, s162, s163, s164, s165, s166, s167, s168, s169, s170, s171, s172, s173, s174, s175, s176, s177, s178, s179, s180, s181, s182, s183, s184, s185, s186, s187, s188, s189, s190, s191, s192, s193, s194, s195, s196, s197, s198, s199, s200, s201, s202, s203, s204], []⟩ W6 := by
  have HMID := Lib.hid hmid
  have HXM := Lib.hid hxm
  have HLL := Lib.hid hll
  have HCC := Lib.hid hcc
  have HT6 := Lib.hid ht6
  have HG6 := Lib.hid hg6
  have HSj := Lib.hid hsj
  have HTX := Lib.hid hsj.text
  have HGI := Lib.hid hgi
  have HEX := Lib.hid hexit
  have HBL6 := Lib.hid hmid.bld
  have HVS6 := Lib.hid hmid.fs
  have HVI6 := Lib.hid hmid.fi
  have HN6 := Lib.hid hmid.node
  have HX86 := Lib.hid hmid.tb
  have nl6 := cell_lt hmid.node
  have tl6 := cell_lt hmid.tb
  have HOP := Lib.hid ho
  have e1 : (n.op == 1) = false := by rw [ho]; rfl
  have e2 : (n.op == 2) = false := by rw [ho]; rfl
  have e3 : (n.op == 3) = true := by rw [ho]; rfl
  clear ho hmid hxm hll hcc ht6 hg6 hsj hgi hexit
  have n6 := cellN (i := 6) (x := .int .i64 n.f0) HN6.out rfl
  have n7 := cellN (i := 7) (x := .int .i64 n.f1) HN6.out rfl
  have n8 := cellN (i := 8) (x := .int .i64 n.f2) HN6.out rfl
  have n9 := cellN (i := 9) (x := .int .i64 n.f3) HN6.out rfl
  refine onN_mono ?_
  conv => arg 2; whnf
  go_wp2_with (first
    | (go_at_call 31; (with_reducible refine (window_any _ _ _ _ _ (inOf n) n.f0 n.f1 n.f2 n.f3 _ HCC.out HBL6.out HLL.out HG6.out).mono ?_); rintro e w7 hl7; obtain ⟨rfl, hm7, bv7, hmid7⟩ := HMID.out.lay hl7 HXM.out; have HM7 := Lib.hid hm7; have HMID7 := Lib.hid hmid7; have n6 := cellN (i := 6) (x := .int .i64 n.f0) hmid7.node rfl; have n7 := cellN (i := 7) (x := .int .i64 n.f1) hmid7.node rfl; have n8 := cellN (i := 8) (x := .int .i64 n.f2) hmid7.node rfl; have n9 := cellN (i := 9) (x := .int .i64 n.f3) hmid7.node rfl; have m6 := cellN (i := 6) (x := .int .i64 0) hm7 rfl; have z6 := frozN (i := 6) hm7; have m7 := cellN (i := 7) (x := .int .i64 0) hm7 rfl; have z7 := frozN (i := 7) hm7; have m8 := cellN (i := 8) (x := .int .i64 0) hm7 rfl; have z8 := frozN (i := 8) hm7; have m9 := cellN (i := 9) (x := .int .i64 0) hm7 rfl; have z9 := frozN (i := 9) hm7; have ml := cell_lt hm7; have nl7 := cell_lt hmid7.node; clear hl7 hm7 hmid7)
    | fail)
  exact HEX.out _ _ _ _ _ _ _ _ _ _ _ _ _ _ _ _ _ _ _ _ _ _ _ _ _ _ _ _ _ _ _ _ _ _ _ _ _ _ _ _ _ _ _ _ _ _ _ _ _ _ _ _ _ _ _ _ _ _ _ _ _ (way3_end HMID7.out HM7.out HOP.out rfl HGI.out)
set_option maxRecDepth 1000000 in
set_option maxHeartbeats 8000000 in
theorem way4_any {w W6 : World} {NB TB LB BB B d : Nat} {n : Gn} {IA SA A VA UA A3 : Option Addr} {ic sc c vc uc c3 : Nat} {S : Nat → Prop} {pv bv : Value} {cs3 : List Value} {L : List Gn} {s0 s1 s2 s4 s5 s11 s13 s14 s15 s16 s17 s18 s19 s20 s21 s22 s23 s24 s25 s26 s27 s28 s29 s30 s31 s32 s33 s34 s35 s36 s37 s38 s39 s40 s41 s42 s43 s44 s45 s46 s47 s48 s49 s50 s51 s52 s53 s54 s55 s56 s57 s58 s60 s61 s62 s63 s64 s65 s66 s67 s68 s69 s70 s71 s72 s73 s74 s75 s76 s77 s78 s79 s80 s81 s82 s83 s84 s85 s86 s87 s88 s89 s90 s91 s92 s93 s94 s95 s96 s97 s98 s99 s100 s101 s102 s103 s104 s105 s106 s107 s108 s109 s110 s111 s112 s113 s114 s115 s116 s117 s118 s119 s120 s121 s122 s123 s124 s125 s126 s127 s128 s129 s130 s131 s132 s133 s134 s135 s136 s137 s138 s139 s140 s141 s142 s143 s144 s145 s146 s147 s148 s149 s150 s151 s152 s153 s154 s155 s156 s157 s158 s159 s160 s161 s162 s163 s164 s165 s166 s167 s168 s169 s170 s171 s172 s173 s174 s175 s176 s177 s178 s179 s180 s181 s182 s183 s184 s185 s186 s187 s188 s189 s190 s191 s192 s193 s194 s195 s196 s197 s198 s199 s200 s201 s202 s203 s204 : Value} {Q : Exit → Act → World → Prop}
    (hmid : Mid w W6 NB TB LB BB B d n IA SA A ic sc c (inOf n) pv bv (.slice VA n.side.length vc) (.slice UA n.ins.length uc) (.slice A3 n.ty.args.length c3) cs3 L L) (hxm : W6.heap[LB + 1]? = some (.cells #[.int .i64 n.op, .slice (some ⟨LB, 0, none⟩) 1 1, .slice none 0 0, .string ⟨#[]⟩, .int .i64 0, .slice none 0 0, .int .i64 0, .int .i64 0, .int .i64 0, .int .i64 0, .int .i64 0, .int .i64 0, .int .i64 0, .bool false] 51 (0, 0))) (hll : (L.map madeN).length ≤ 1000) (hcc : ∀ b, ((NB ≤ b ∧ b ≤ LB + 1) ∨ pv.ownBlock = some b) → b < W6.heap.size)
    (ht6 : TyAt W6 (fun _ => True) d (.agg #[.int .i64 n.ty.kind, .slice A3 n.ty.args.length c3]) n.ty) (hg6 : Gk W6) (hsj : SmN n)
    (hgi : IntsAt w S (.slice IA n.ins.length ic) n.ins ∧ IntsAt w S (.slice SA n.side.length sc) n.side ∧ TyAt w S d (.agg #[.int .i64 n.ty.kind, .slice A n.ty.args.length c]) n.ty) (ho : n.op = 4)
    (hexit : ∀ (u60 u61 u62 u63 u64 u65 u66 u67 u68 u69 u70 u71 u72 u73 u74 u75 u76 u77 u78 u79 u80 u81 u82 u83 u84 u85 u86 u87 u88 u89 u90 u91 u92 u93 u94 u95 u96 u97 u98 u99 u100 u101 u102 u103 u104 u105 u106 u107 u108 u109 u110 u111 u112 u113 u114 u115 u116 u117 u118 u119 : Value) (wx : World), Sw w NB TB LB BB B d n IA SA A ic sc c (inOf n) pv (.slice VA n.side.length vc) (.slice UA n.ins.length uc) (.slice A3 n.ty.args.length c3) cs3 L wx → Q .normal ⟨#[s0, s1, s2, .pointer (some ⟨BB, 0, none⟩), s4, s5, .pointer (some ⟨NB, 0, none⟩), .int .i64 (inOf n), .pointer (some ⟨TB, 0, none⟩), .slice VA n.side.length vc, .slice UA n.ins.length uc, .int .i64 (L.length : Int), .pointer (some ⟨LB + 1, 0, none⟩), s13, s14, s15, s16, s17, s18, s19, s20, s21, s22, s23, s24, s25, s26, s27, s28, s29, s30, s31, s32, s33, s34, s35, s36, s37, s38, s39, s40, s41, s42, s43, s44, s45, s46, s47, s48, s49, s50, s51, s52, s53, s54, s55, s56, s57, s58, .int .i64 n.op, u60, u61, u62, u63, u64, u65, u66, u67, u68, u69, u70, u71, u72, u73, u74, u75, u76, u77, u78, u79, u80, u81, u82, u83, u84, u85, u86, u87, u88, u89, u90, u91, u92, u93, u94, u95, u96, u97, u98, u99, u100, u101, u102, u103, u104, u105, u106, u107, u108, u109, u110, u111, u112, u113, u114, u115, u116, u117, u118, u119, s120, s121, s122, s123, s124, s125, s126, s127, s128, s129, s130, s131, s132, s133, s134, s135, s136, s137, s138, s139, s140, s141, s142, s143, s144, s145, s146, s147, s148, s149, s150, s151, s152, s153, s154, s155, s156, s157, s158, s159, s160, s161, s162, s163, s164, s165, s166, s167, s168, s169, s170, s171, s172, s173, s174, s175, s176, s177, s178, s179, s180, s181, s182, s183, s184, s185, s186, s187, s188, s189, s190, s191, s192, s193, s194, s195, s196, s197, s198, s199, s200, s201, s202, s203, s204], []⟩ wx) :
    Code.wp Tryz.prog blk2 Q ⟨#[s0, s1, s2, .pointer (some ⟨BB, 0, none⟩), s4, s5, .pointer (some ⟨NB, 0, none⟩), .int .i64 (inOf n), .pointer (some ⟨TB, 0, none⟩), .slice VA n.side.length vc, .slice UA n.ins.length uc, s11, .pointer (some ⟨LB + 1, 0, none⟩), s13, s14, s15, s16, s17, s18, s19, s20, s21, s22, s23, s24, s25, s26, s27, s28, s29, s30, s31, s32, s33, s34, s35, s36, s37, s38, s39, s40, s41, s42, s43, s44, s45, s46, s47, s48, s49, s50, s51, s52, s53, s54, s55, s56, s57, s58, .int .i64 n.op, s60, s61, s62, s63, s64, s65, s66, s67, s68, s69, s70, s71, s72, s73, s74, s75, s76, s77, s78, s79, s80, s81, s82, s83, s84, s85, s86, s87, s88, s89, s90, s91, s92, s93, s94, s95, s96, s97, s98, s99, s100, s101, s102, s103, s104, s105, s106, s107, s108, s109, s110, s111, s112, s113, s114, s115, s116, s117, s118, s119, s120, s121, s122, s123, s124, s125, s126, s127, s128, s129, s130, s131, s132, s133, s134, s135, s136, s137, s138, s139, s140, s141, s142, s143, s144, s145, s146, s147, s148, s149, s150, s151, s152, s153, s154, s155, s156, s157, s158, s159, s160, s161, s162, s163, s164, s165, s166, s167, s168, s169, s170, s171, s172, s173, s174, s175, s176, s177, s178, s179, s180, s181, s182, s183, s184, s185, s186, s187, s188, s189, s190, s191, s192, s193, s194, s195, s196, s197, s198, s199, s200, s201, s202, s203, s204], []⟩ W6 := by
  have HMID := Lib.hid hmid
  have HXM := Lib.hid hxm
  have HLL := Lib.hid hll
  have HCC := Lib.hid hcc
  have HT6 := Lib.hid ht6
  have HG6 := Lib.hid hg6
  have HSj := Lib.hid hsj
  have HTX := Lib.hid hsj.text
  have HGI := Lib.hid hgi
  have HEX := Lib.hid hexit
  have HBL6 := Lib.hid hmid.bld
  have HVS6 := Lib.hid hmid.fs
  have HVI6 := Lib.hid hmid.fi
  have HN6 := Lib.hid hmid.node
  have HX86 := Lib.hid hmid.tb
  have nl6 := cell_lt hmid.node
  have tl6 := cell_lt hmid.tb
  have HOP := Lib.hid ho
  have e1 : (n.op == 1) = false := by rw [ho]; rfl
  have e2 : (n.op == 2) = false := by rw [ho]; rfl
  have e3 : (n.op == 3) = false := by rw [ho]; rfl
  have e4 : (n.op == 4) = true := by rw [ho]; rfl
  clear ho hmid hxm hll hcc ht6 hg6 hsj hgi hexit
  have n3 := cellN (i := 3) (x := .string ⟨n.text.toArray⟩) HN6.out rfl
  have n10 := cellN (i := 10) (x := .int .i64 n.e) HN6.out rfl
  have n11 := cellN (i := 11) (x := .int .i64 n.l) HN6.out rfl
  have n12 := cellN (i := 12) (x := .int .i64 n.lt) HN6.out rfl
  have n13 := cellN (i := 13) (x := .bool n.acc) HN6.out rfl
  refine onN_mono ?_
  conv => arg 2; whnf
  go_wp2_with (first
    | (go_at_call 32; (with_reducible refine (group_any _ _ _ _ _ (inOf n) n.text n.e n.l n.lt n.acc _ HCC.out HBL6.out HLL.out (by have := HTX.out; omega) HG6.out).mono ?_); rintro e w7 hl7; obtain ⟨rfl, hm7, bv7, hmid7⟩ := HMID.out.lay hl7 HXM.out; have HM7 := Lib.hid hm7; have HMID7 := Lib.hid hmid7; have n3 := cellN (i := 3) (x := .string ⟨n.text.toArray⟩) hmid7.node rfl; have n10 := cellN (i := 10) (x := .int .i64 n.e) hmid7.node rfl; have n11 := cellN (i := 11) (x := .int .i64 n.l) hmid7.node rfl; have n12 := cellN (i := 12) (x := .int .i64 n.lt) hmid7.node rfl; have n13 := cellN (i := 13) (x := .bool n.acc) hmid7.node rfl; have m3 := cellN (i := 3) (x := .string ⟨#[]⟩) hm7 rfl; have z3 := frozN (i := 3) hm7; have m10 := cellN (i := 10) (x := .int .i64 0) hm7 rfl; have z10 := frozN (i := 10) hm7; have m11 := cellN (i := 11) (x := .int .i64 0) hm7 rfl; have z11 := frozN (i := 11) hm7; have m12 := cellN (i := 12) (x := .int .i64 0) hm7 rfl; have z12 := frozN (i := 12) hm7; have m13 := cellN (i := 13) (x := .bool false) hm7 rfl; have z13 := frozN (i := 13) hm7; have ml := cell_lt hm7; have nl7 := cell_lt hmid7.node; clear hl7 hm7 hmid7)
    | fail)
  go_region_law (fail)
  all_goals (
    go_wp2_with (fail)
    first
      | exact HEX.out _ _ _ _ _ _ _ _ _ _ _ _ _ _ _ _ _ _ _ _ _ _ _ _ _ _ _ _ _ _ _ _ _ _ _ _ _ _ _ _ _ _ _ _ _ _ _ _ _ _ _ _ _ _ _ _ _ _ _ _ _ (way4a_end HMID7.out HM7.out HOP.out rfl HGI.out)
      | exact HEX.out _ _ _ _ _ _ _ _ _ _ _ _ _ _ _ _ _ _ _ _ _ _ _ _ _ _ _ _ _ _ _ _ _ _ _ _ _ _ _ _ _ _ _ _ _ _ _ _ _ _ _ _ _ _ _ _ _ _ _ _ _ (way4b_end HMID7.out HM7.out HOP.out rfl HGI.out))
set_option maxRecDepth 1000000 in
set_option maxHeartbeats 8000000 in
theorem way5_any {w W6 : World} {NB TB LB BB B d : Nat} {n : Gn} {IA SA A VA UA A3 : Option Addr} {ic sc c vc uc c3 : Nat} {S : Nat → Prop} {pv bv : Value} {cs3 : List Value} {L : List Gn} {s0 s1 s2 s4 s5 s11 s13 s14 s15 s16 s17 s18 s19 s20 s21 s22 s23 s24 s25 s26 s27 s28 s29 s30 s31 s32 s33 s34 s35 s36 s37 s38 s39 s40 s41 s42 s43 s44 s45 s46 s47 s48 s49 s50 s51 s52 s53 s54 s55 s56 s57 s58 s60 s61 s62 s63 s64 s65 s66 s67 s68 s69 s70 s71 s72 s73 s74 s75 s76 s77 s78 s79 s80 s81 s82 s83 s84 s85 s86 s87 s88 s89 s90 s91 s92 s93 s94 s95 s96 s97 s98 s99 s100 s101 s102 s103 s104 s105 s106 s107 s108 s109 s110 s111 s112 s113 s114 s115 s116 s117 s118 s119 s120 s121 s122 s123 s124 s125 s126 s127 s128 s129 s130 s131 s132 s133 s134 s135 s136 s137 s138 s139 s140 s141 s142 s143 s144 s145 s146 s147 s148 s149 s150 s151 s152 s153 s154 s155 s156 s157 s158 s159 s160 s161 s162 s163 s164 s165 s166 s167 s168 s169 s170 s171 s172 s173 s174 s175 s176 s177 s178 s179 s180 s181 s182 s183 s184 s185 s186 s187 s188 s189 s190 s191 s192 s193 s194 s195 s196 s197 s198 s199 s200 s201 s202 s203 s204 : Value} {Q : Exit → Act → World → Prop}
    (hmid : Mid w W6 NB TB LB BB B d n IA SA A ic sc c (inOf n) pv bv (.slice VA n.side.length vc) (.slice UA n.ins.length uc) (.slice A3 n.ty.args.length c3) cs3 L L) (hxm : W6.heap[LB + 1]? = some (.cells #[.int .i64 n.op, .slice (some ⟨LB, 0, none⟩) 1 1, .slice none 0 0, .string ⟨#[]⟩, .int .i64 0, .slice none 0 0, .int .i64 0, .int .i64 0, .int .i64 0, .int .i64 0, .int .i64 0, .int .i64 0, .int .i64 0, .bool false] 51 (0, 0))) (hll : (L.map madeN).length ≤ 1000) (hcc : ∀ b, ((NB ≤ b ∧ b ≤ LB + 1) ∨ pv.ownBlock = some b) → b < W6.heap.size)
    (ht6 : TyAt W6 (fun _ => True) d (.agg #[.int .i64 n.ty.kind, .slice A3 n.ty.args.length c3]) n.ty) (hg6 : Gk W6) (hsj : SmN n)
    (hgi : IntsAt w S (.slice IA n.ins.length ic) n.ins ∧ IntsAt w S (.slice SA n.side.length sc) n.side ∧ TyAt w S d (.agg #[.int .i64 n.ty.kind, .slice A n.ty.args.length c]) n.ty) (ho : n.op = 5)
    (hexit : ∀ (u60 u61 u62 u63 u64 u65 u66 u67 u68 u69 u70 u71 u72 u73 u74 u75 u76 u77 u78 u79 u80 u81 u82 u83 u84 u85 u86 u87 u88 u89 u90 u91 u92 u93 u94 u95 u96 u97 u98 u99 u100 u101 u102 u103 u104 u105 u106 u107 u108 u109 u110 u111 u112 u113 u114 u115 u116 u117 u118 u119 : Value) (wx : World), Sw w NB TB LB BB B d n IA SA A ic sc c (inOf n) pv (.slice VA n.side.length vc) (.slice UA n.ins.length uc) (.slice A3 n.ty.args.length c3) cs3 L wx → Q .normal ⟨#[s0, s1, s2, .pointer (some ⟨BB, 0, none⟩), s4, s5, .pointer (some ⟨NB, 0, none⟩), .int .i64 (inOf n), .pointer (some ⟨TB, 0, none⟩), .slice VA n.side.length vc, .slice UA n.ins.length uc, .int .i64 (L.length : Int), .pointer (some ⟨LB + 1, 0, none⟩), s13, s14, s15, s16, s17, s18, s19, s20, s21, s22, s23, s24, s25, s26, s27, s28, s29, s30, s31, s32, s33, s34, s35, s36, s37, s38, s39, s40, s41, s42, s43, s44, s45, s46, s47, s48, s49, s50, s51, s52, s53, s54, s55, s56, s57, s58, .int .i64 n.op, u60, u61, u62, u63, u64, u65, u66, u67, u68, u69, u70, u71, u72, u73, u74, u75, u76, u77, u78, u79, u80, u81, u82, u83, u84, u85, u86, u87, u88, u89, u90, u91, u92, u93, u94, u95, u96, u97, u98, u99, u100, u101, u102, u103, u104, u105, u106, u107, u108, u109, u110, u111, u112, u113, u114, u115, u116, u117, u118, u119, s120, s121, s122, s123, s124, s125, s126, s127, s128, s129, s130, s131, s132, s133, s134, s135, s136, s137, s138, s139, s140, s141, s142, s143, s144, s145, s146, s147, s148, s149, s150, s151, s152, s153, s154, s155, s156, s157, s158, s159, s160, s161, s162, s163, s164, s165, s166, s167, s168, s169, s170, s171, s172, s173, s174, s175, s176, s177, s178, s179, s180, s181, s182, s183, s184, s185, s186, s187, s188, s189, s190, s191, s192, s193, s194, s195, s196, s197, s198, s199, s200, s201, s202, s203, s204], []⟩ wx) :
    Code.wp Tryz.prog blk2 Q ⟨#[s0, s1, s2, .pointer (some ⟨BB, 0, none⟩), s4, s5, .pointer (some ⟨NB, 0, none⟩), .int .i64 (inOf n), .pointer (some ⟨TB, 0, none⟩), .slice VA n.side.length vc, .slice UA n.ins.length uc, s11, .pointer (some ⟨LB + 1, 0, none⟩), s13, s14, s15, s16, s17, s18, s19, s20, s21, s22, s23, s24, s25, s26, s27, s28, s29, s30, s31, s32, s33, s34, s35, s36, s37, s38, s39, s40, s41, s42, s43, s44, s45, s46, s47, s48, s49, s50, s51, s52, s53, s54, s55, s56, s57, s58, .int .i64 n.op, s60, s61, s62, s63, s64, s65, s66, s67, s68, s69, s70, s71, s72, s73, s74, s75, s76, s77, s78, s79, s80, s81, s82, s83, s84, s85, s86, s87, s88, s89, s90, s91, s92, s93, s94, s95, s96, s97, s98, s99, s100, s101, s102, s103, s104, s105, s106, s107, s108, s109, s110, s111, s112, s113, s114, s115, s116, s117, s118, s119, s120, s121, s122, s123, s124, s125, s126, s127, s128, s129, s130, s131, s132, s133, s134, s135, s136, s137, s138, s139, s140, s141, s142, s143, s144, s145, s146, s147, s148, s149, s150, s151, s152, s153, s154, s155, s156, s157, s158, s159, s160, s161, s162, s163, s164, s165, s166, s167, s168, s169, s170, s171, s172, s173, s174, s175, s176, s177, s178, s179, s180, s181, s182, s183, s184, s185, s186, s187, s188, s189, s190, s191, s192, s193, s194, s195, s196, s197, s198, s199, s200, s201, s202, s203, s204], []⟩ W6 := by
  have HMID := Lib.hid hmid
  have HXM := Lib.hid hxm
  have HLL := Lib.hid hll
  have HCC := Lib.hid hcc
  have HT6 := Lib.hid ht6
  have HG6 := Lib.hid hg6
  have HSj := Lib.hid hsj
  have HTX := Lib.hid hsj.text
  have HGI := Lib.hid hgi
  have HEX := Lib.hid hexit
  have HBL6 := Lib.hid hmid.bld
  have HVS6 := Lib.hid hmid.fs
  have HVI6 := Lib.hid hmid.fi
  have HN6 := Lib.hid hmid.node
  have HX86 := Lib.hid hmid.tb
  have nl6 := cell_lt hmid.node
  have tl6 := cell_lt hmid.tb
  have HOP := Lib.hid ho
  have e1 : (n.op == 1) = false := by rw [ho]; rfl
  have e2 : (n.op == 2) = false := by rw [ho]; rfl
  have e3 : (n.op == 3) = false := by rw [ho]; rfl
  have e4 : (n.op == 4) = false := by rw [ho]; rfl
  have e5 : (n.op == 5) = true := by rw [ho]; rfl
  clear ho hmid hxm hll hcc ht6 hg6 hsj hgi hexit
  refine onN_mono ?_
  conv => arg 2; whnf
  go_wp2_with (first
    | (go_at_call 33; (with_reducible refine (flatten_any _ _ _ _ _ n.ins UA uc _ _ HCC.out HBL6.out HLL.out HVI6.out.ints (by have := HSj.out.ins; omega) HG6.out).mono ?_); rintro e w7 hl7; obtain ⟨rfl, hm7, bv7, hmid7⟩ := HMID.out.lay hl7 HXM.out; have HM7 := Lib.hid hm7; have HMID7 := Lib.hid hmid7; have n1 := cellN (i := 1) (x := .slice IA n.ins.length ic) hmid7.node rfl; have m1 := cellN (i := 1) (x := .slice (some ⟨LB, 0, none⟩) 1 1) hm7 rfl; have z1 := frozN (i := 1) hm7; have ml := cell_lt hm7; have nl7 := cell_lt hmid7.node; clear hl7 hm7 hmid7)
    | fail)
  exact HEX.out _ _ _ _ _ _ _ _ _ _ _ _ _ _ _ _ _ _ _ _ _ _ _ _ _ _ _ _ _ _ _ _ _ _ _ _ _ _ _ _ _ _ _ _ _ _ _ _ _ _ _ _ _ _ _ _ _ _ _ _ _ (way5_end HMID7.out HM7.out HOP.out rfl HGI.out)
set_option maxRecDepth 1000000 in
set_option maxHeartbeats 8000000 in
theorem way6_any {w W6 : World} {NB TB LB BB B d : Nat} {n : Gn} {IA SA A VA UA A3 : Option Addr} {ic sc c vc uc c3 : Nat} {S : Nat → Prop} {pv bv : Value} {cs3 : List Value} {L : List Gn} {s0 s1 s2 s4 s5 s11 s13 s14 s15 s16 s17 s18 s19 s20 s21 s22 s23 s24 s25 s26 s27 s28 s29 s30 s31 s32 s33 s34 s35 s36 s37 s38 s39 s40 s41 s42 s43 s44 s45 s46 s47 s48 s49 s50 s51 s52 s53 s54 s55 s56 s57 s58 s60 s61 s62 s63 s64 s65 s66 s67 s68 s69 s70 s71 s72 s73 s74 s75 s76 s77 s78 s79 s80 s81 s82 s83 s84 s85 s86 s87 s88 s89 s90 s91 s92 s93 s94 s95 s96 s97 s98 s99 s100 s101 s102 s103 s104 s105 s106 s107 s108 s109 s110 s111 s112 s113 s114 s115 s116 s117 s118 s119 s120 s121 s122 s123 s124 s125 s126 s127 s128 s129 s130 s131 s132 s133 s134 s135 s136 s137 s138 s139 s140 s141 s142 s143 s144 s145 s146 s147 s148 s149 s150 s151 s152 s153 s154 s155 s156 s157 s158 s159 s160 s161 s162 s163 s164 s165 s166 s167 s168 s169 s170 s171 s172 s173 s174 s175 s176 s177 s178 s179 s180 s181 s182 s183 s184 s185 s186 s187 s188 s189 s190 s191 s192 s193 s194 s195 s196 s197 s198 s199 s200 s201 s202 s203 s204 : Value} {Q : Exit → Act → World → Prop}
    (hmid : Mid w W6 NB TB LB BB B d n IA SA A ic sc c (inOf n) pv bv (.slice VA n.side.length vc) (.slice UA n.ins.length uc) (.slice A3 n.ty.args.length c3) cs3 L L) (hxm : W6.heap[LB + 1]? = some (.cells #[.int .i64 n.op, .slice (some ⟨LB, 0, none⟩) 1 1, .slice none 0 0, .string ⟨#[]⟩, .int .i64 0, .slice none 0 0, .int .i64 0, .int .i64 0, .int .i64 0, .int .i64 0, .int .i64 0, .int .i64 0, .int .i64 0, .bool false] 51 (0, 0))) (hll : (L.map madeN).length ≤ 1000) (hcc : ∀ b, ((NB ≤ b ∧ b ≤ LB + 1) ∨ pv.ownBlock = some b) → b < W6.heap.size)
    (ht6 : TyAt W6 (fun _ => True) d (.agg #[.int .i64 n.ty.kind, .slice A3 n.ty.args.length c3]) n.ty) (hg6 : Gk W6) (hsj : SmN n)
    (hgi : IntsAt w S (.slice IA n.ins.length ic) n.ins ∧ IntsAt w S (.slice SA n.side.length sc) n.side ∧ TyAt w S d (.agg #[.int .i64 n.ty.kind, .slice A n.ty.args.length c]) n.ty) (ho : n.op = 6)
    (hexit : ∀ (u60 u61 u62 u63 u64 u65 u66 u67 u68 u69 u70 u71 u72 u73 u74 u75 u76 u77 u78 u79 u80 u81 u82 u83 u84 u85 u86 u87 u88 u89 u90 u91 u92 u93 u94 u95 u96 u97 u98 u99 u100 u101 u102 u103 u104 u105 u106 u107 u108 u109 u110 u111 u112 u113 u114 u115 u116 u117 u118 u119 : Value) (wx : World), Sw w NB TB LB BB B d n IA SA A ic sc c (inOf n) pv (.slice VA n.side.length vc) (.slice UA n.ins.length uc) (.slice A3 n.ty.args.length c3) cs3 L wx → Q .normal ⟨#[s0, s1, s2, .pointer (some ⟨BB, 0, none⟩), s4, s5, .pointer (some ⟨NB, 0, none⟩), .int .i64 (inOf n), .pointer (some ⟨TB, 0, none⟩), .slice VA n.side.length vc, .slice UA n.ins.length uc, .int .i64 (L.length : Int), .pointer (some ⟨LB + 1, 0, none⟩), s13, s14, s15, s16, s17, s18, s19, s20, s21, s22, s23, s24, s25, s26, s27, s28, s29, s30, s31, s32, s33, s34, s35, s36, s37, s38, s39, s40, s41, s42, s43, s44, s45, s46, s47, s48, s49, s50, s51, s52, s53, s54, s55, s56, s57, s58, .int .i64 n.op, u60, u61, u62, u63, u64, u65, u66, u67, u68, u69, u70, u71, u72, u73, u74, u75, u76, u77, u78, u79, u80, u81, u82, u83, u84, u85, u86, u87, u88, u89, u90, u91, u92, u93, u94, u95, u96, u97, u98, u99, u100, u101, u102, u103, u104, u105, u106, u107, u108, u109, u110, u111, u112, u113, u114, u115, u116, u117, u118, u119, s120, s121, s122, s123, s124, s125, s126, s127, s128, s129, s130, s131, s132, s133, s134, s135, s136, s137, s138, s139, s140, s141, s142, s143, s144, s145, s146, s147, s148, s149, s150, s151, s152, s153, s154, s155, s156, s157, s158, s159, s160, s161, s162, s163, s164, s165, s166, s167, s168, s169, s170, s171, s172, s173, s174, s175, s176, s177, s178, s179, s180, s181, s182, s183, s184, s185, s186, s187, s188, s189, s190, s191, s192, s193, s194, s195, s196, s197, s198, s199, s200, s201, s202, s203, s204], []⟩ wx) :
    Code.wp Tryz.prog blk2 Q ⟨#[s0, s1, s2, .pointer (some ⟨BB, 0, none⟩), s4, s5, .pointer (some ⟨NB, 0, none⟩), .int .i64 (inOf n), .pointer (some ⟨TB, 0, none⟩), .slice VA n.side.length vc, .slice UA n.ins.length uc, s11, .pointer (some ⟨LB + 1, 0, none⟩), s13, s14, s15, s16, s17, s18, s19, s20, s21, s22, s23, s24, s25, s26, s27, s28, s29, s30, s31, s32, s33, s34, s35, s36, s37, s38, s39, s40, s41, s42, s43, s44, s45, s46, s47, s48, s49, s50, s51, s52, s53, s54, s55, s56, s57, s58, .int .i64 n.op, s60, s61, s62, s63, s64, s65, s66, s67, s68, s69, s70, s71, s72, s73, s74, s75, s76, s77, s78, s79, s80, s81, s82, s83, s84, s85, s86, s87, s88, s89, s90, s91, s92, s93, s94, s95, s96, s97, s98, s99, s100, s101, s102, s103, s104, s105, s106, s107, s108, s109, s110, s111, s112, s113, s114, s115, s116, s117, s118, s119, s120, s121, s122, s123, s124, s125, s126, s127, s128, s129, s130, s131, s132, s133, s134, s135, s136, s137, s138, s139, s140, s141, s142, s143, s144, s145, s146, s147, s148, s149, s150, s151, s152, s153, s154, s155, s156, s157, s158, s159, s160, s161, s162, s163, s164, s165, s166, s167, s168, s169, s170, s171, s172, s173, s174, s175, s176, s177, s178, s179, s180, s181, s182, s183, s184, s185, s186, s187, s188, s189, s190, s191, s192, s193, s194, s195, s196, s197, s198, s199, s200, s201, s202, s203, s204], []⟩ W6 := by
  have HMID := Lib.hid hmid
  have HXM := Lib.hid hxm
  have HLL := Lib.hid hll
  have HCC := Lib.hid hcc
  have HT6 := Lib.hid ht6
  have HG6 := Lib.hid hg6
  have HSj := Lib.hid hsj
  have HTX := Lib.hid hsj.text
  have HGI := Lib.hid hgi
  have HEX := Lib.hid hexit
  have HBL6 := Lib.hid hmid.bld
  have HVS6 := Lib.hid hmid.fs
  have HVI6 := Lib.hid hmid.fi
  have HN6 := Lib.hid hmid.node
  have HX86 := Lib.hid hmid.tb
  have nl6 := cell_lt hmid.node
  have tl6 := cell_lt hmid.tb
  have HOP := Lib.hid ho
  have e1 : (n.op == 1) = false := by rw [ho]; rfl
  have e2 : (n.op == 2) = false := by rw [ho]; rfl
  have e3 : (n.op == 3) = false := by rw [ho]; rfl
  have e4 : (n.op == 4) = false := by rw [ho]; rfl
  have e5 : (n.op == 5) = false := by rw [ho]; rfl
  have e6 : (n.op == 6) = true := by rw [ho]; rfl
  clear ho hmid hxm hll hcc ht6 hg6 hsj hgi hexit
  refine onN_mono ?_
  conv => arg 2; whnf
  go_wp2_with (first
    | (go_at_call 34; (with_reducible refine (sink_any _ _ _ _ _ (inOf n) _ HCC.out HBL6.out HLL.out HG6.out).mono ?_); rintro e w7 hl7; obtain ⟨rfl, hm7, bv7, hmid7⟩ := HMID.out.lay hl7 HXM.out; have HM7 := Lib.hid hm7; have HMID7 := Lib.hid hmid7; clear hl7 hm7 hmid7)
    | fail)
  exact HEX.out _ _ _ _ _ _ _ _ _ _ _ _ _ _ _ _ _ _ _ _ _ _ _ _ _ _ _ _ _ _ _ _ _ _ _ _ _ _ _ _ _ _ _ _ _ _ _ _ _ _ _ _ _ _ _ _ _ _ _ _ _ (way6_end HMID7.out HM7.out HOP.out rfl HGI.out)
end Go.Proofs.YtllnamhgnbdkmaaGreatDoor
