/-
The walk of KindPrefix.
-/
import Derived.Test.YtdoadedglpjldaaDoorLoc
import Derived.Test.YtdoadedglpjldaaDoorAwk
namespace Go.Proofs.YtdoadedglpjldaaDoor
open Go.RowKit

theorem ext_list (s : ByteArray) (k : Nat) : (s.extract 0 k).data.toList = s.data.toList.take k := by
  simp [ByteArray.data_extract, Array.toList_extract, List.extract]

theorem cat_list (s m : ByteArray) (k : Nat) : (s.extract 0 (k + 1) ++ m).data.toList = s.data.toList.take (k + 1) ++ m.data.toList := by
  rw [← ext_list]; simp

set_option maxRecDepth 100000 in
set_option maxHeartbeats 1000000 in
theorem prefix_walk (s m : ByteArray) (w : World) (hG : Glob w) :
    Calls Tryd.prog 6 #[.string s, .string m] w fun e w' => e = .returned (.bool true) ∧ Below w.heap.size w w' := by
  have hGl := hG.lt
  have hawk := fun (W : World) (h : Below w.heap.size w W) => awake_any W (hG.kept (h.block 0 hGl))
  have HAWK := Lib.hid hawk
  clear hawk
  by_cases hs : 1000 < s.size
  · go_enter Tryd.func6, Tryd.ntmps6
    go_wp2_with (fail)
    refine (HAWK.out _ (Below.refl _ _)).mono ?_
    rintro e w1 ⟨rfl, hb⟩
    go_wp2
    go_ret
    exact ⟨rfl, hb⟩
  · by_cases hm : 1000 < m.size
    · go_enter Tryd.func6, Tryd.ntmps6
      go_wp2_with (fail)
      refine (HAWK.out _ (Below.refl _ _)).mono ?_
      rintro e w1 ⟨rfl, hb⟩
      go_wp2
      go_ret
      exact ⟨rfl, hb⟩
    · go_enter Tryd.func6, Tryd.ntmps6
      go_wp2_with (fail)
      refine (parse_any s w (by omega) hG).mono ?_
      cases hp : parseT s.data.toList with
      | mk k o =>
      cases o with
      | some t =>
        clear hp
        rintro e w1 ⟨⟨v, rfl, hT⟩, hb⟩
        obtain ⟨A, c, rfl⟩ := hT.form
        go_wp2_with (fail)
        refine (HAWK.out _ (hb.alloc (hb.size) _)).mono ?_
        rintro e w2 ⟨rfl, hb2⟩
        go_wp2
        go_ret
        exact ⟨rfl, (hb.alloc hb.size _).trans (hb2.mono (by have := hb.size; simp; omega))⟩
      | none =>
        obtain ⟨hk, hk2, hk3⟩ := parseT_bad hp
        have hkn : k ≤ s.size := by simpa using hk
        rintro e w1 ⟨he, hb⟩
        obtain rfl : e = .returned (.tuple #[.agg #[.int .i64 0, .slice none 0 0], .int .i64 (k : Int), .int .i64 40]) := he
        have HK2 := Lib.hid hk2
        have HK3 := Lib.hid hk3
        clear hk hk2 hk3 hp
        go_wp2_with (fail)
        have hb' := hb.alloc hb.size (.cells #[.int .i64 0, .slice none 0 0] 24)
        have hz' : w.heap.size ≤ (w1.alloc (.cells #[.int .i64 0, .slice none 0 0] 24)).heap.size := by have := hb.size; simp; omega
        refine (parse_any (s.extract 0 k) _ (by simp; omega) (hG.kept (hb'.block 0 hGl))).mono ?_
        rw [ext_list]
        rcases HK2.out with hp2 | ⟨t, hp2⟩
        · rw [hp2]
          rintro e w2 ⟨he, hb2⟩
          obtain rfl : e = .returned (.tuple #[.agg #[.int .i64 0, .slice none 0 0], .int .i64 (k : Int), .int .i64 40]) := he
          have hb3 := (hb'.trans (hb2.mono hz')).alloc (hb'.trans (hb2.mono hz')).size (.cells #[.int .i64 0, .slice none 0 0] 24)
          clear hp2
          by_cases hks : k < s.size
          · have hp3 := HK3.out (by simpa using hks) m.data.toList
            have HP3 := Lib.hid hp3
            clear hp3
            go_wp2_with (fail)
            refine (parse_any _ _ (by simp; omega) (hG.kept (hb3.block 0 hGl))).mono ?_
            rw [cat_list, HP3.out]
            rintro e w3 ⟨he, hb4⟩
            obtain rfl : e = .returned (.tuple #[.agg #[.int .i64 0, .slice none 0 0], .int .i64 (k : Int), .int .i64 40]) := he
            have hb5 := (hb3.trans (hb4.mono hb3.size)).alloc (hb3.trans (hb4.mono hb3.size)).size (.cells #[.int .i64 0, .slice none 0 0] 24)
            go_wp2_with (fail)
            refine (HAWK.out _ hb5).mono ?_
            rintro e w5 ⟨rfl, hb6⟩
            go_wp2
            go_ret
            exact ⟨rfl, hb5.trans (hb6.mono hb5.size)⟩
          · go_wp2_with (fail)
            refine (HAWK.out _ hb3).mono ?_
            rintro e w3 ⟨rfl, hb4⟩
            go_wp2
            go_ret
            exact ⟨rfl, hb3.trans (hb4.mono hb3.size)⟩
        · rw [hp2]
          rintro e w2 ⟨⟨v, rfl, hT⟩, hb2⟩
          obtain ⟨A, c, rfl⟩ := hT.form
          have hb3 := (hb'.trans (hb2.mono hz')).alloc (hb'.trans (hb2.mono hz')).size (.cells #[.int .i64 t.kind, .slice A t.args.length c] 24)
          clear hp2
          by_cases hks : k < s.size
          · have hp3 := HK3.out (by simpa using hks) m.data.toList
            have HP3 := Lib.hid hp3
            clear hp3
            go_wp2_with (fail)
            refine (parse_any _ _ (by simp; omega) (hG.kept (hb3.block 0 hGl))).mono ?_
            rw [cat_list, HP3.out]
            rintro e w3 ⟨he, hb4⟩
            obtain rfl : e = .returned (.tuple #[.agg #[.int .i64 0, .slice none 0 0], .int .i64 (k : Int), .int .i64 40]) := he
            have hb5 := (hb3.trans (hb4.mono hb3.size)).alloc (hb3.trans (hb4.mono hb3.size)).size (.cells #[.int .i64 0, .slice none 0 0] 24)
            go_wp2_with (fail)
            refine (HAWK.out _ hb5).mono ?_
            rintro e w5 ⟨rfl, hb6⟩
            go_wp2
            go_ret
            exact ⟨rfl, hb5.trans (hb6.mono hb5.size)⟩
          · go_wp2_with (fail)
            refine (HAWK.out _ hb3).mono ?_
            rintro e w3 ⟨rfl, hb4⟩
            go_wp2
            go_ret
            exact ⟨rfl, hb3.trans (hb4.mono hb3.size)⟩
end Go.Proofs.YtdoadedglpjldaaDoor
