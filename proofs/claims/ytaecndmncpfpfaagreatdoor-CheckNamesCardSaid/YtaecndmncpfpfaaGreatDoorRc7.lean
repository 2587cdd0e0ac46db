import Derived.Test.YtaecndmncpfpfaaGreatDoorRc1
import Derived.Test.YtaecndmncpfpfaaGreatDoorShelf
namespace Go.Proofs.YtaecndmncpfpfaaGreatDoor
open Go.RowKit
def hexZ (b : UInt8) : Int := match hexI b with
 | none => -1
 | some h => (h : Int)
theorem hex_all : ∀ n : Fin 256, Lib.indexByte [48, 49, 50, 51, 52, 53, 54, 55, 56, 57, 97, 98, 99, 100, 101, 102] (UInt8.ofNat n.val) = hexZ (UInt8.ofNat n.val) := by decide +kernel
theorem of_to (b : UInt8) : UInt8.ofNat b.toNat = b := by simp
theorem hex_any (b : UInt8) (w : World) : Calls Tryz.prog 160 #[.string ⟨#[48, 49, 50, 51, 52, 53, 54, 55, 56, 57, 97, 98, 99, 100, 101, 102]⟩, .int .u8 (b.toNat : Int)] w fun e w' => e = .returned (.int .i64 (hexZ b)) ∧ w = w' := by
 refine (Tryz.strings_IndexByte _ _ w).mono ?_
 rintro e w' ⟨rfl, rfl⟩
 refine ⟨?_, rfl⟩
 have h := hex_all ⟨b.toNat, b.toNat_lt⟩
 rw [of_to] at h
 rw [← h]
 have hc : ((b.toNat : Int)).toNat.toUInt8 = b := by rw [Int.toNat_natCast]; exact of_to b
 rw [hc]
theorem hexI_lt {b : UInt8} {h : Nat} (e : hexI b = some h) : h < 16 := by
 unfold hexI at e
 split at e
 · rename_i hd
   simp [isDig] at hd
   injection e with e
   omega
 · split at e
   · injection e with e
     omega
   · cases e
theorem or_nib_all : ∀ h : Fin 16, ∀ x : Fin 16, bits .or .i64 ((h.val : Int) * 16) (x.val : Int) = ((16 * h.val + x.val : Nat) : Int) := by decide +kernel
theorem or_nib (h x : Nat) (h1 : h < 16) (h2 : x < 16) : bits .or .i64 ((h : Int) * 16) (x : Int) = ((16 * h + x : Nat) : Int) := or_nib_all ⟨h, h1⟩ ⟨x, h2⟩
theorem isPlain_nat (n : Nat) (h : n < 256) (w : World) : Calls Tryz.prog 154 #[.int .u8 (n : Int)] w fun e w' => e = .returned (.bool (isPl (UInt8.ofNat n))) ∧ w = w' := by
 have := isPlain_any (UInt8.ofNat n) w
 rw [UInt8.toNat_ofNat', Nat.mod_eq_of_lt h] at this
 exact this
theorem smC_eq (h : Nat) : smC h = (List.range 16).any fun x => !isPl (UInt8.ofNat (16 * h + x)) := rfl
set_option maxHeartbeats 1000000 in
theorem someCoded_any (h : Nat) (hh : h < 16) (w : World) : Calls Tryz.prog 174 #[.int .i64 (h : Int)] w fun e w' => e = .returned (.bool (smC h)) ∧ w = w' := by
 go_enter Tryz.func174, Tryz.ntmps174
 go_wp2_with (fail)
 go_loop [4] (fun iv => ∃ x : Nat, iv = .int .i64 (x : Int) ∧ x ≤ 16 ∧ Hid (∀ y, y < x → isPl (UInt8.ofNat (16 * h + y)) = true)) (fun iv => 16 - (intOf iv).toNat)
 case atStart => exact ⟨0, rfl, by omega, Lib.hid (by intro y hy; omega)⟩
 case round =>
  obtain ⟨x, rfl, hx, HA⟩ := hrel
  by_cases hlt : x < 16
  · obtain ⟨y, hy⟩ : ∃ y, y = 16 * h + x := ⟨_, rfl⟩
    have hor := or_nib h x hh hlt
    rw [← hy] at hor
    have hw : IntKind.u8.wrap (y : Int) = (y : Int) := IntWalk.u8_in _ (by omega)
    have hy256 : y < 256 := by omega
    have HY := Lib.hid hy
    clear hy
    go_wp2_with (fail)
    refine (isPlain_nat y hy256 _).mono ?_
    rintro e w' ⟨rfl, rfl⟩
    cases hp : isPl (UInt8.ofNat y) with
    | true =>
      have HP := Lib.hid hp
      clear hp
      go_wp2_with (fail)
      go_round
      case rel => exact ⟨x + 1, by go_num, by omega, Lib.hid (by
       intro z hz
       rcases Nat.lt_or_ge z x with h' | h'
       · exact HA.out z h'
       · rw [show z = x by omega, ← HY.out]; exact HP.out)⟩
      case measure => simp [intOf]; omega
    | false =>
      have HF : Hid (smC h = true) := Lib.hid (by
       rw [smC_eq, List.any_eq_true]
       exact ⟨x, by simpa using hlt, by rw [← HY.out, hp]; rfl⟩)
      clear hp
      go_wp2_with (fail)
      go_ret
      rw [HF.out]
      exact ⟨rfl, rfl⟩
  · have HF : Hid (smC h = false) := Lib.hid (by
      rw [smC_eq, List.any_eq_false]
      intro z hz
      have hz' : z < 16 := by simpa using hz
      rw [HA.out z (by omega)]
      decide)
    go_wp2_with (fail)
    go_ret
    rw [HF.out]
    exact ⟨rfl, rfl⟩
end Go.Proofs.YtaecndmncpfpfaaGreatDoor
namespace Go.Proofs.YtaecndmncpfpfaaGreatDoor
open Go.RowKit
theorem hex_some {b : UInt8} {h : Nat} (hx : hexI b = some h) (w : World) : Calls Tryz.prog 160 #[.string ⟨#[48, 49, 50, 51, 52, 53, 54, 55, 56, 57, 97, 98, 99, 100, 101, 102]⟩, .int .u8 (b.toNat : Int)] w fun e w' => e = .returned (.int .i64 (h : Int)) ∧ w = w' := by
 have := hex_any b w
 rw [show hexZ b = (h : Int) by unfold hexZ; rw [hx]] at this
 exact this
theorem hex_none {b : UInt8} (hx : hexI b = none) (w : World) : Calls Tryz.prog 160 #[.string ⟨#[48, 49, 50, 51, 52, 53, 54, 55, 56, 57, 97, 98, 99, 100, 101, 102]⟩, .int .u8 (b.toNat : Int)] w fun e w' => e = .returned (.int .i64 (-1)) ∧ w = w' := by
 have := hex_any b w
 rw [show hexZ b = -1 by unfold hexZ; rw [hx]] at this
 exact this
theorem hexI_lk {l : List UInt8} {m h : Nat} (hx : hexI (lkB l m) = some h) : m < l.length := lkB_lt (by intro e; rw [e, show hexI 0 = none by decide] at hx; cases hx)
def CdOut (R : Nat) (s : ByteArray) (w : World) (e : Ending) (w' : World) : Nat × Option UInt8 → Prop
 | (m', none) => e = .returned (.tuple #[.int .u8 0, .bool false]) ∧ Only R w w' ∧ Rdr w' R s m'
 | (m', some b) => e = .returned (.tuple #[.int .u8 (b.toNat : Int), .bool true]) ∧ Only R w w' ∧ Rdr w' R s m'
set_option maxRecDepth 100000 in
set_option maxHeartbeats 1000000 in
theorem coded_any (R : Nat) (s : ByteArray) (m : Nat) (w : World) (h : Rdr w R s m) :
    Calls Tryz.prog 159 #[.pointer (some ⟨R, 0, none⟩)] w fun e w' => CdOut R s w e w' (codS (bl s) m) := by
 have HR := Lib.hid h
 have hlen := h.len
 have hle := h.le
 clear h
 go_enter Tryz.func159, Tryz.ntmps159
 go_wp2_with (fail)
 refine (look_any R s m w HR.out).mono ?_
 rintro e w2 ⟨rfl, hb⟩
 have HR2 := Lib.hid (HR.out.below hb)
 have HO2 := Lib.hid (Only.of_below (R := R) hb)
 have c1 := zF HR2.out.box
 have f1 := zB HR2.out.box 1
 have hlt := HR2.out.lt
 clear hb
 cases hx : hexI (lkB (bl s) m) with
 | none =>
   have HF : Hid (codS (bl s) m = (m, none)) := by show _ = _; unfold codS; rw [hx]
   have HX := Lib.hid hx
   clear hx
   go_wp2_with (fail)
   refine (hex_none HX.out w2).mono ?_
   rintro e w3 ⟨rfl, rfl⟩
   go_wp2_with (fail)
   go_ret2
   rw [HF.out]
   exact ⟨rfl, HO2.out, HR2.out⟩
 | some h =>
   have hh := hexI_lt hx
   have hms : m < s.size := by have := hexI_lk hx; rwa [zT] at this
   have hneg : decide ((h : Int) < 0) = false := by simp
   have HX := Lib.hid hx
   clear hx
   go_wp2_with (fail)
   refine (hex_some HX.out w2).mono ?_
   rintro e w3 ⟨rfl, rfl⟩
   go_wp2_with (fail)
   refine (someCoded_any h hh w2).mono ?_
   rintro e w3 ⟨rfl, rfl⟩
   cases hsm : smC h with
   | false =>
     have HF : Hid (codS (bl s) m = (m, none)) := by show _ = _; unfold codS; rw [HX.out]; simp only [hsm]; rfl
     clear hsm
     go_wp2_with (fail)
     go_ret2
     rw [HF.out]
     exact ⟨rfl, HO2.out, HR2.out⟩
   | true =>
     have HC : Hid (codS (bl s) m = (match hexI (lkB (bl s) (m + 1)) with
         | none => (m + 1, none)
         | some x => if isPl (UInt8.ofNat (16 * h + x)) then (m + 1, none) else (m + 2, some (UInt8.ofNat (16 * h + x))))) := by
      show _ = _; unfold codS; rw [HX.out]; simp only [hsm]; rfl
     clear hsm
     have HR3 := Lib.hid (HR2.out.go (m + 1) (by omega))
     have HO3 := Lib.hid (HO2.out.trans (Only.set_ R 1 w2 (.int .i64 ((m + 1 : Nat) : Int))))
     rw [show ((m + 1 : Nat) : Int) = (m : Int) + 1 by omega] at HR3 HO3
     go_wp2_with (fail)
     obtain ⟨W, hW⟩ : ∃ W, W = w2.setCell ⟨R, 1, none⟩ (.int .i64 ((m : Int) + 1)) := ⟨_, rfl⟩
     rw [← hW] at HR3 HO3
     rw [← hW]
     clear hW c1 f1 hlt
     refine (look_any R s (m + 1) W HR3.out).mono ?_
     rintro e w4 ⟨rfl, hb⟩
     have HR4 := Lib.hid (HR3.out.below hb)
     have HO4 := Lib.hid (HO3.out.trans (Only.of_below (R := R) hb))
     have c1 := zF HR4.out.box
     have f1 := zB HR4.out.box 1
     have hlt := HR4.out.lt
     clear hb
     cases hx2 : hexI (lkB (bl s) (m + 1)) with
     | none =>
       have HF : Hid (codS (bl s) m = (m + 1, none)) := by show _ = _; rw [HC.out, hx2]
       have HX2 := Lib.hid hx2
       clear hx2
       go_wp2_with (fail)
       refine (hex_none HX2.out w4).mono ?_
       rintro e w3 ⟨rfl, rfl⟩
       go_wp2_with (fail)
       go_ret2
       rw [HF.out]
       exact ⟨rfl, HO4.out, HR4.out⟩
     | some x =>
       have hx16 := hexI_lt hx2
       have hms2 : m + 1 < s.size := by have := hexI_lk hx2; rwa [zT] at this
       have hneg2 : decide ((x : Int) < 0) = false := by simp
       have HX2 := Lib.hid hx2
       have HC2 : Hid (codS (bl s) m = (if isPl (UInt8.ofNat (16 * h + x)) then (m + 1, none) else (m + 2, some (UInt8.ofNat (16 * h + x))))) := by show _ = _; rw [HC.out, hx2]
       clear hx2
       obtain ⟨y, hy⟩ : ∃ y, y = 16 * h + x := ⟨_, rfl⟩
       have hor := or_nib h x hh hx16
       rw [← hy] at hor HC2
       have hw : IntKind.u8.wrap (y : Int) = (y : Int) := IntWalk.u8_in _ (by omega)
       have hy256 : y < 256 := by omega
       have HT : Hid (((UInt8.ofNat y).toNat : Int) = (y : Int)) := by show _ = _; rw [UInt8.toNat_ofNat', Nat.mod_eq_of_lt hy256]
       clear hy
       go_wp2_with (fail)
       refine (hex_some HX2.out w4).mono ?_
       rintro e w3 ⟨rfl, rfl⟩
       go_wp2_with (fail)
       refine (isPlain_nat y hy256 w4).mono ?_
       rintro e w3 ⟨rfl, rfl⟩
       cases hp : isPl (UInt8.ofNat y) with
       | true =>
         have HF : Hid (codS (bl s) m = (m + 1, none)) := by show _ = _; rw [HC2.out, if_pos hp]
         clear hp
         go_wp2_with (fail)
         go_ret2
         rw [HF.out]
         exact ⟨rfl, HO4.out, HR4.out⟩
       | false =>
         have HF : Hid (codS (bl s) m = (m + 2, some (UInt8.ofNat y))) := by show _ = _; rw [HC2.out, if_neg (by rw [hp]; decide)]
         clear hp
         go_wp2_with (fail)
         go_ret2
         rw [HF.out]
         refine ⟨by rw [HT.out]; rfl, HO4.out.trans (Only.set_ R 1 w4 _), ?_⟩
         have := HR4.out.go (m + 2) (by omega)
         rwa [show ((m + 2 : Nat) : Int) = (m : Int) + 1 + 1 by omega] at this
set_option maxRecDepth 100000 in
set_option maxHeartbeats 1000000 in
theorem letter_any (R : Nat) (s : ByteArray) (m : Nat) (w : World) (h : Rdr w R s m) :
    Calls Tryz.prog 130 #[.pointer (some ⟨R, 0, none⟩)] w fun e w' => CdOut R s w e w' (letS (bl s) m) := by
 have HR := Lib.hid h
 have hlen := h.len
 have hle := h.le
 clear h
 go_enter Tryz.func130, Tryz.ntmps130
 go_wp2_with (fail)
 refine (readByte_any R s m 92 w (by decide) HR.out).mono ?_
 by_cases h92 : lkB (bl s) m = 92
 · have HF : Hid (letS (bl s) m = codS (bl s) (m + 1)) := by show _ = _; unfold letS; rw [if_pos h92]
   rw [show rdB (bl s) m 92 = true by unfold rdB; rw [decide_eq_true h92]]
   rintro e w2 ⟨rfl, ho, hr⟩
   have HR2 : Hid (Rdr w2 R s (m + 1)) := Lib.hid hr
   have HO2 := Lib.hid ho
   clear ho hr h92
   go_wp2_with (fail)
   refine (coded_any R s (m + 1) w2 HR2.out).mono ?_
   cases hc : codS (bl s) (m + 1) with
   | mk m' o =>
   have HG := Lib.hid (HF.out.trans hc)
   clear hc
   cases o with
   | none =>
     rintro e w3 ⟨rfl, ho, hr⟩
     have HR3 := Lib.hid hr
     clear hr
     go_wp2_with (fail)
     go_ret2
     rw [HG.out]
     exact ⟨rfl, HO2.out.trans ho, HR3.out⟩
   | some b =>
     rintro e w3 ⟨rfl, ho, hr⟩
     have HR3 := Lib.hid hr
     clear hr
     go_wp2_with (fail)
     go_ret2
     rw [HG.out]
     exact ⟨rfl, HO2.out.trans ho, HR3.out⟩
 · have HL : Hid (letS (bl s) m = (if isPl (lkB (bl s) m) then (m + 1, some (lkB (bl s) m)) else (m, none))) := by show _ = _; unfold letS; rw [if_neg h92]
   rw [show rdB (bl s) m 92 = false by unfold rdB; rw [decide_eq_false h92]]
   rintro e w2 ⟨rfl, ho, hr⟩
   have HR2 : Hid (Rdr w2 R s m) := Lib.hid hr
   have HO2 := Lib.hid ho
   clear ho hr h92
   go_wp2_with (fail)
   refine (look_any R s m w2 HR2.out).mono ?_
   rintro e w3 ⟨rfl, hb⟩
   have HR3 := Lib.hid (HR2.out.below hb)
   have HO3 := Lib.hid (HO2.out.trans (Only.of_below (R := R) hb))
   have c1 := zF HR3.out.box
   have f1 := zB HR3.out.box 1
   have hlt := HR3.out.lt
   clear hb
   go_wp2_with (fail)
   refine (isPlain_any (lkB (bl s) m) w3).mono ?_
   rintro e w4 ⟨rfl, rfl⟩
   cases hp : isPl (lkB (bl s) m) with
   | true =>
     have HF : Hid (letS (bl s) m = (m + 1, some (lkB (bl s) m))) := by show _ = _; rw [HL.out, if_pos hp]
     have hms : m < s.size := by have := lkB_lt (l := bl s) (m := m) (by intro e; rw [e] at hp; exact absurd hp (by decide)); rwa [zT] at this
     clear hp
     go_wp2_with (fail)
     go_ret2
     rw [HF.out]
     exact ⟨rfl, HO3.out.trans (Only.set_ R 1 w3 _), by rw [show (m : Int) + 1 = ((m + 1 : Nat) : Int) by omega]; exact HR3.out.go (m + 1) (by omega)⟩
   | false =>
     have HF : Hid (letS (bl s) m = (m, none)) := by show _ = _; rw [HL.out, if_neg (by rw [hp]; decide)]
     clear hp
     go_wp2_with (fail)
     go_ret2
     rw [HF.out]
     exact ⟨rfl, HO3.out, HR3.out⟩
end Go.Proofs.YtaecndmncpfpfaaGreatDoor
namespace Go.Proofs.YtaecndmncpfpfaaGreatDoor
open Go.RowKit
theorem info5 : (Tryz.prog.info? 5).map (fun i => (i.zero, i.size, i.bytes)) = some (some (.int .u8 0), 1, 1) := by kernel_rfl
def slLen : Value → Nat
 | .slice _ n _ => n
 | _ => 0
def strS (l : List UInt8) (m : Nat) : Nat × Option (List UInt8) := strF l 257 [] (m + 1)
def StOut (R : Nat) (s : ByteArray) (w : World) (e : Ending) (w' : World) : Nat × Option (List UInt8) → Prop
 | (m', none) => e = .returned (.tuple #[.string ⟨#[]⟩, .bool false]) ∧ Only R w w' ∧ Rdr w' R s m'
 | (m', some t) => e = .returned (.tuple #[.string ⟨t.toArray⟩, .bool true]) ∧ Only R w w' ∧ Rdr w' R s m'
set_option maxRecDepth 100000 in
set_option maxHeartbeats 2000000 in
theorem string_any (R : Nat) (s : ByteArray) (m0 : Nat) (w : World) (hm0 : m0 < s.size) (h : Rdr w R s m0) :
    Calls Tryz.prog 87 #[.pointer (some ⟨R, 0, none⟩)] w fun e w' => StOut R s w e w' (strS (bl s) m0) := by
 obtain ⟨i0, hi, hq0, hq1, hq2⟩ := info_parts info5
 have HR := Lib.hid h
 have hRl := h.lt
 have hlen := h.len
 have c1 := zF h.box
 have f1 := zB h.box 1
 clear h
 go_enter Tryz.func87, Tryz.ntmps87
 go_wp2
 refine wp_scope_enter2 (fun a' w' => ∃ (m : Nat) (acc : List UInt8) (v u5 u6 u7 u8 u9 u10 u11 u12 u13 u14 u15 u16 u17 u18 u19 u20 u21 u22 u23 u24 u25 u26 u27 u28 u29 u30 : Value), a' = { tmps := #[.pointer (some ⟨R, 0, none⟩), undef, .string ⟨#[]⟩, .bool false, v, u5, u6, u7, u8, u9, u10, u11, u12, u13, u14, u15, u16, u17, u18, u19, u20, u21, u22, u23, u24, u25, u26, u27, u28, u29, u30], defers := [] } ∧ m ≤ s.size ∧ acc.length ≤ 256 ∧ Hid (strS (bl s) m0 = strF (bl s) (257 - acc.length) acc m) ∧ Hid (w'.ownsRow w.heap.size 5 1 v acc.length (bcl acc)) ∧ Hid (Rdr w' R s m) ∧ Hid (Only R w w')) (fun a' _ => 300 - slLen (a'.tmps.getD 4 undef)) ?hf ?first ?pass
 case hf => rfl
 case first =>
  go_wp2_with (fail)
  exact ⟨m0 + 1, [], .slice none 0 0, _, _, _, _, _, _, _, _, _, _, _, _, _, _, _, _, _, _, _, _, _, _, _, _, _, _, rfl, by omega, by simp, Lib.hid rfl, Lib.hid (World.ownsRow_nil _ _ _ _), Lib.hid (by rw [show (m0 : Int) + 1 = ((m0 + 1 : Nat) : Int) by omega]; exact HR.out.go (m0 + 1) (by omega)), Lib.hid (Only.set_ R 1 w _)⟩
 case pass =>
  clear c1 f1
  rintro a' wr ⟨m, acc, v, u5, u6, u7, u8, u9, u10, u11, u12, u13, u14, u15, u16, u17, u18, u19, u20, u21, u22, u23, u24, u25, u26, u27, u28, u29, u30, rfl, hm, hacc, HS, HO, HR1, HO1⟩
  obtain ⟨Av, cv, rfl⟩ := own_slice HO.out
  have HST : Hid (strS (bl s) m0 = (if lkB (bl s) m = 34 then (m + 1, some acc) else if acc.length < 256 then (match letS (bl s) m with
   | (m', none) => (m', none)
   | (m', some b) => strF (bl s) (257 - (acc.length + 1)) (acc ++ [b]) m') else (m, none))) := by
   show _ = _
   rw [HS.out, show 257 - acc.length = (257 - (acc.length + 1)) + 1 by omega]
   rfl
  have hsr := HO1.out.size
  go_wp2_with (fail)
  refine (readByte_any R s m 34 wr (by decide) HR1.out).mono ?_
  by_cases h34 : lkB (bl s) m = 34
  · have HF : Hid (strS (bl s) m0 = (m + 1, some acc)) := by show _ = _; rw [HST.out, if_pos h34]
    rw [show rdB (bl s) m 34 = true by unfold rdB; rw [decide_eq_true h34]]
    rintro e w2 ⟨rfl, ho, hr⟩
    have HR2 : Hid (Rdr w2 R s (m + 1)) := Lib.hid hr
    have hcv := string_run (w := w2) HO.out (fun k hk => ho.block k (HO.out.lt k hk).2 (by have := (HO.out.lt k hk).1; simp; omega))
    clear hr h34
    go_wp2_with (fail)
    simp only [Exit.jump]
    go_ret2
    rw [HF.out]
    exact ⟨rfl, HO1.out.trans ho, HR2.out⟩
  · rw [show rdB (bl s) m 34 = false by unfold rdB; rw [decide_eq_false h34]]
    rintro e w2 ⟨rfl, ho, hr⟩
    have HR2 : Hid (Rdr w2 R s m) := Lib.hid hr
    have HO2 := Lib.hid (HO1.out.trans ho)
    have HOW2 := Lib.hid (HO.out.kept (row := some R) ho (.inr (fun e => by have := (HO.out.lt R e).1; omega)))
    have H34 := Lib.hid h34
    clear hr ho h34
    by_cases hac : acc.length < 256
    · have hacd : decide ((acc.length : Int) < 256) = true := by simp; omega
      have HS2 : Hid (strS (bl s) m0 = (match letS (bl s) m with
       | (m', none) => (m', none)
       | (m', some b) => strF (bl s) (257 - (acc.length + 1)) (acc ++ [b]) m')) := by show _ = _; rw [HST.out, if_neg H34.out, if_pos hac]
      go_wp2_with (fail)
      refine (letter_any R s m w2 HR2.out).mono ?_
      cases hc : letS (bl s) m with
      | mk m' o =>
      cases o with
      | none =>
        have HF : Hid (strS (bl s) m0 = (m', none)) := by show _ = _; rw [HS2.out, hc]
        clear hc
        rintro e w3 ⟨rfl, ho, hr⟩
        have HR3 := Lib.hid hr
        clear hr
        go_wp2_with (fail)
        simp only [Exit.jump]
        go_ret2
        rw [HF.out]
        exact ⟨rfl, HO2.out.trans ho, HR3.out⟩
      | some b =>
        have HF : Hid (strS (bl s) m0 = strF (bl s) (257 - (acc ++ [b]).length) (acc ++ [b]) m') := by
         show _ = _; rw [HS2.out, hc, show (acc ++ [b]).length = acc.length + 1 by simp]
        clear hc
        rintro e w3 ⟨rfl, ho, hr⟩
        have HR3 := Lib.hid hr
        have hmr := hr.le
        have HO3 := Lib.hid (HO2.out.trans ho)
        have HOW3 := Lib.hid (HOW2.out.kept (row := some R) ho (.inr (fun e => by have := (HOW2.out.lt R e).1; omega)))
        have hs3 := HO3.out.size
        have hR3 := HR3.out.lt
        clear hr ho
        go_wp2_with (at_builtin; refine wpList_append_own _ rfl _ _ 120 rfl w.heap.size 5 i0 (.int .u8 0) 1 1 Tryz.underlying120 hi hq0 hq1 hq2 rfl (by decide) _ acc.length (bcl acc) rfl (HOW3.out.alloc _) ⟨w3.heap.size, 0, none⟩ 1 1 [.int .u8 (b.toNat : Int)] rfl rfl (cell_one_new' _ _ _ _ (by simp)) (by intro u hu; simp at hu; subst hu; rfl) (by unfold maxLen; omega) (by omega) (by simp; omega) ?_; intro v' w7 hown7 hg7 _)
        obtain ⟨A7, c7, rfl⟩ := own_slice hown7
        go_step3
        refine ⟨rfl, ⟨m', acc ++ [b], .slice A7 (acc.length + 1) c7, _, _, _, _, _, _, _, _, _, _, _, _, _, _, _, _, _, _, _, _, _, _, _, _, _, _, rfl, hmr, by simp; omega, HF, Lib.hid (by rw [bcl_snoc, List.length_append]; exact hown7), Lib.hid ⟨?_, hmr, hlen⟩, Lib.hid (Only.grown (yJ HO3.out _) hg7 fun k hk => (HOW3.out.lt k hk).1)⟩, ?_⟩
        · have hne : some R ≠ (Value.slice Av acc.length cv).ownBlock := fun e => by have := (HOW3.out.lt R e.symm).1; omega
          rw [hg7.block R (by simp; omega) hne, Below.heap_alloc _ _ _ hR3]
          exact HR3.out.box
        · simp [slLen]; omega
    · have hacd : decide ((acc.length : Int) < 256) = false := by simp; omega
      have HF : Hid (strS (bl s) m0 = (m, none)) := by show _ = _; rw [HST.out, if_neg H34.out, if_neg hac]
      go_wp2_with (fail)
      simp only [Exit.jump]
      go_ret2
      rw [HF.out]
      exact ⟨rfl, HO2.out, HR2.out⟩
end Go.Proofs.YtaecndmncpfpfaaGreatDoor
namespace Go.Proofs.YtaecndmncpfpfaaGreatDoor
open Go.RowKit
theorem nlF_le (l : List UInt8) : ∀ (f n : Nat), n ≤ l.length → n ≤ nlF l f n ∧ nlF l f n ≤ l.length ∧ nlF l f n ≤ n + f
 | 0, n, h => ⟨Nat.le_refl _, h, Nat.le_refl _⟩
 | f + 1, n, h => by
   unfold nlF
   split
   · rename_i hc
     have := nlF_le l f (n + 1) (by omega)
     omega
   · omega
theorem nmL_le (l : List UInt8) : nmL l ≤ l.length ∧ nmL l ≤ 16 := by
 have := nlF_le l 16 0 (Nat.zero_le _)
 unfold nmL
 omega
theorem nl_on {l : List UInt8} {n : Nat} (h16 : n < 16) (hl : n < l.length) (hc : (isLet (lkB l n) || (decide (0 < n) && (isDig (lkB l n) || decide (lkB l n = 95)))) = true) : nlF l (16 - n) n = nlF l (16 - (n + 1)) (n + 1) := by
 rw [show 16 - n = (16 - (n + 1)) + 1 by omega]
 simp only [nlF, if_pos (And.intro hl hc)]
theorem nl_off {l : List UInt8} {n : Nat} (hc : ¬ (n < l.length ∧ (isLet (lkB l n) || (decide (0 < n) && (isDig (lkB l n) || decide (lkB l n = 95)))) = true)) : nlF l (16 - n) n = n := by
 cases hf : 16 - n with
 | zero => rfl
 | succ f => simp only [nlF, if_neg hc]
set_option maxRecDepth 100000 in
set_option maxHeartbeats 1000000 in
theorem nameLength_any (s : ByteArray) (w : World) (hs : s.size ≤ 1000000) : Calls Tryz.prog 155 #[.string s] w fun e w' => e = .returned (.int .i64 (nmL (bl s) : Nat)) ∧ w = w' := by
 go_enter Tryz.func155, Tryz.ntmps155
 go_wp2_with (fail)
 go_loop [3] (fun nv => ∃ n : Nat, nv = .int .i64 (n : Int) ∧ n ≤ s.size ∧ n ≤ 16 ∧ Hid (nmL (bl s) = nlF (bl s) (16 - n) n)) (fun nv => 16 - (intOf nv).toNat)
 case atStart => exact ⟨0, rfl, Nat.zero_le _, by omega, Lib.hid rfl⟩
 case round =>
  obtain ⟨n, rfl, hn, hn16, HE⟩ := hrel
  by_cases hlt : n < s.size
  · by_cases h16 : n < 16
    · have hix := str_index s n hlt hs
      have hb0 := bl_at s n hlt
      generalize s[n] = b at hix hb0
      have HB := Lib.hid hb0
      clear hb0
      have hll : n < (bl s).length := by rw [zT]; exact hlt
      go_wp2_with (fail)
      refine (isLetter_any b w).mono ?_
      rintro e w' ⟨rfl, rfl⟩
      cases hL : isLet b with
      | true =>
        have HF : Hid (nmL (bl s) = nlF (bl s) (16 - (n + 1)) (n + 1)) := Lib.hid (by rw [HE.out, nl_on h16 hll (by rw [HB.out, hL]; rfl)])
        clear hL
        go_wp2_with (fail)
        go_round
        case rel => exact ⟨n + 1, by go_num, by omega, by omega, HF⟩
        case measure => simp [intOf]; omega
      | false =>
        by_cases hn0 : n = 0
        · have HF : Hid (nmL (bl s) = n) := Lib.hid (by rw [HE.out, nl_off (by rw [HB.out, hL]; simp [hn0])])
          have hd0 : decide ((0 : Int) < (n : Int)) = false := by simp; omega
          have hd1 : decide (0 < n) = false := by simp; omega
          clear hL hn0
          go_wp2_with (fail)
          go_ret
          rw [HF.out]
          exact ⟨rfl, rfl⟩
        · have hd0 : decide ((0 : Int) < (n : Int)) = true := by simp; omega
          have hd1 : decide (0 < n) = true := by simp; omega
          have hL' := Lib.hid hL
          clear hL
          go_wp2_with (fail)
          refine (isDigit_any b w).mono ?_
          rintro e w' ⟨rfl, rfl⟩
          cases hD : isDig b with
          | true =>
            have HF : Hid (nmL (bl s) = nlF (bl s) (16 - (n + 1)) (n + 1)) := Lib.hid (by rw [HE.out, nl_on h16 hll (by rw [HB.out, hL'.out, hD]; simp; omega)])
            clear hD
            go_wp2_with (fail)
            go_round
            case rel => exact ⟨n + 1, by go_num, by omega, by omega, HF⟩
            case measure => simp [intOf]; omega
          | false =>
            have HD' := Lib.hid hD
            clear hD
            by_cases h95 : b = 95
            · have hb : ((b.toNat : Int) == 95) = true := by rw [h95]; rfl
              have HF : Hid (nmL (bl s) = nlF (bl s) (16 - (n + 1)) (n + 1)) := Lib.hid (by rw [HE.out, nl_on h16 hll (by rw [HB.out, hL'.out, HD'.out]; simp [h95]; omega)])
              clear h95
              go_wp2_with (fail)
              go_round
              case rel => exact ⟨n + 1, by go_num, by omega, by omega, HF⟩
              case measure => simp [intOf]; omega
            · have hb : ((b.toNat : Int) == 95) = false := u8_beq_false (b := 95) h95
              have HF : Hid (nmL (bl s) = n) := Lib.hid (by rw [HE.out, nl_off (by rw [HB.out, hL'.out, HD'.out]; simp [h95])])
              clear h95
              go_wp2_with (fail)
              go_ret
              rw [HF.out]
              exact ⟨rfl, rfl⟩
    · have HF : Hid (nmL (bl s) = n) := Lib.hid (by rw [HE.out, show 16 - n = 0 by omega]; rfl)
      go_wp2_with (fail)
      go_ret
      rw [HF.out]
      exact ⟨rfl, rfl⟩
  · have HF : Hid (nmL (bl s) = n) := Lib.hid (by rw [HE.out, nl_off (by rw [zT]; omega)])
    go_wp2_with (fail)
    go_ret
    rw [HF.out]
    exact ⟨rfl, rfl⟩
end Go.Proofs.YtaecndmncpfpfaaGreatDoor
namespace Go.Proofs.YtaecndmncpfpfaaGreatDoor
open Go.RowKit
theorem clone_any (s : ByteArray) (w : World) (hs : s.size ≤ 1000000) : Calls Tryz.prog 45 #[.string s] w fun e w' => e = .returned (.string s) ∧ Below w.heap.size w w' := by
 go_enter Tryz.func45, Tryz.ntmps45
 go_wp2_with (fail)
 refine (Tryz.stringslite_Clone s w (by omega)).mono ?_
 rintro e w2 ⟨rfl, hb⟩
 go_wp2_with (fail)
 go_ret
 exact ⟨rfl, hb⟩
theorem bl_extract (s : ByteArray) (a b : Nat) (_hb : b ≤ s.size) : bl (s.extract a b) = ((bl s).take b).drop a := by
 unfold bl
 rw [Lib.extract_data]
 rw [List.drop_take]
set_option maxRecDepth 100000 in
set_option maxHeartbeats 6000000 in
theorem spelt_any (R : Nat) (s : ByteArray) (m : Nat) (w : World) (h : Rdr w R s m) :
    Calls Tryz.prog 131 #[.pointer (some ⟨R, 0, none⟩)] w fun e w' => (∃ t, bl t = spel (bl s) m ∧ e = .returned (.string t)) ∧ Only R w w' ∧ Rdr w' R s (m + (spel (bl s) m).length) := by
 have HR := Lib.hid h
 have hlen := h.len
 have hle := h.le
 have hRl := h.lt
 have c0 := zG h.box
 have c1 := zF h.box
 have f1 := zB h.box 1
 clear h
 go_enter Tryz.func131, Tryz.ntmps131
 go_upto_region 2 with (fail)
 obtain ⟨t, ht⟩ : ∃ t, t = s.extract m s.size := ⟨_, rfl⟩
 have htl : bl t = (bl s).drop m := by rw [ht, bl_extract s m s.size (Nat.le_refl _), List.take_of_length_le (by rw [zT]; exact Nat.le_refl _)]
 have hts : t.size ≤ 1000000 := by have := congrArg List.length htl; rw [zT, List.length_drop, zT] at this; omega
 have hsl : ∀ W : World, (Instr.slice 9 (.string s) (some (.int .i64 (m : Int))) none none).run Tryz.prog W = .ok (.string t) W := by
  intro W; rw [ht]; go_simp
 obtain ⟨k, hk⟩ : ∃ k, k = nmL (bl t) := ⟨_, rfl⟩
 have hkl := nmL_le (bl t)
 rw [← hk, htl, List.length_drop, zT] at hkl
 have s1 : IntKind.i64.wrap ((m : Int) + (k : Int)) = (m : Int) + (k : Int) := IntWalk.i64_in _ (by omega)
 have HT := Lib.hid htl
 have HK := Lib.hid hk
 clear ht htl hk
 go_cut [] (fun wx => Only R w wx ∧ Rdr wx R s (m + k))
 case first => as_aux_lemma =>
  go_region_with (go_at_call 155; refine (nameLength_any t _ hts).mono ?_; rw [← HK.out]; rintro e w' ⟨rfl, rfl⟩)
  all_goals (go_wp2_with (fail); go_meet; exact ⟨(Only.set_ R 1 w _).drewN 1, by have := HR.out.go (m + k) (by omega); rw [Int.natCast_add] at this; exact ⟨this.box, this.le, this.len⟩⟩)
 case rest =>
  obtain ⟨hO, hR⟩ := hcut
  obtain ⟨w2, hw2⟩ : ∃ w2 : World, w2 = wc := ⟨_, rfl⟩
  subst hw2
  have HO2 := Lib.hid hO
  have HR2 := Lib.hid hR
  obtain ⟨u, hu⟩ : ∃ u, u = s.extract m (m + k) := ⟨_, rfl⟩
  have hul : bl u = ((bl s).drop m).take k := by rw [hu, bl_extract s m (m + k) (by omega), List.drop_take, show m + k - m = k by omega]
  have hus : u.size ≤ 1000000 := by have := congrArg List.length hul; rw [zT, List.length_take, List.length_drop, zT] at this; omega
  have hsl2 : ∀ W : World, (Instr.slice 9 (.string s) (some (.int .i64 (m : Int))) (some (.int .i64 ((m : Int) + (k : Int)))) none).run Tryz.prog W = .ok (.string u) W := by
   intro W; rw [hu]; go_simp
   rw [if_pos ⟨by omega, by omega⟩, if_pos (by omega), show ((m : Int) + (k : Int)).toNat = m + k by omega]
  have HU := Lib.hid hul
  have hr0 := zG HR2.out.box
  have hr1 := zF HR2.out.box
  rw [Int.natCast_add] at hr1
  have hRl2 := HR2.out.lt
  have HR0 := Lib.hid hr0
  have HR1 := Lib.hid hr1
  have hBB : Below w2.heap.size w2 w2 := Below.refl _ _
  clear hu hul hO hR hsl s1 c0 c1 f1
  go_wp2_with (fail)
  go_region_held3 (fun w' => w'.cell? ⟨R, 0, none⟩ = some (.string s) ∧ w'.cell? ⟨R, 1, none⟩ = some (.int .i64 ((m : Int) + (k : Int))) ∧ Below w2.heap.size w2 w')
   ((refine ⟨?_, ?_, ?_⟩ <;> (repeat' (first | with_reducible assumption | with_reducible refine zX ?_ | with_reducible refine Below.drew ?_))))
   (first
     | (go_at_call 45; refine (clone_any u w2.drew hus).mono ?_; rintro e w3 ⟨rfl, hb3⟩; have HB3 : Below w2.heap.size w2 w3 := (Below.refl _ w2).drew.trans hb3; have x0 := (HB3.cell (p := ⟨R, 0, none⟩) hRl2).trans HR0.out; have x1 := (HB3.cell (p := ⟨R, 1, none⟩) hRl2).trans HR1.out))
  go_wp2_with (fail)
  go_ret
  have hsp : spel (bl s) m = bl u := by unfold spel; rw [HU.out, ← HT.out, ← HK.out]
  have hln : (spel (bl s) m).length = k := by rw [hsp, HU.out, List.length_take, List.length_drop, zT]; omega
  refine ⟨⟨u, hsp.symm, rfl⟩, HO2.out.trans (Only.of_below HB3), ?_⟩
  rw [hln]
  exact HR2.out.below HB3
