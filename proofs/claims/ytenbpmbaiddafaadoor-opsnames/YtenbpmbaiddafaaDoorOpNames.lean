/- OpsNames: its walk. -/
import Derived.Test.YtenbpmbaiddafaaDoorOpL
import Derived.Test.YtenbpmbaiddafaaDoorOpOnce
import Derived.Test.YtenbpmbaiddafaaDoorRfW
import Derived.Test.YtenbpmbaiddafaaDoorRfX
import Derived.Test.YtenbpmbaiddafaaDoorNum
namespace Go.Proofs.YtenbpmbaiddafaaDoor
open Go.RowKit
set_option linter.unusedVariables false

/-- what the walk asks of the package variables -/
def AllW (w : World) : Prop := Tb w ∧ TC w 3 flV ∧ ErrT w
theorem AllW.below {w w' : World} (h : AllW w) (hb : Below w.heap.size w w') : AllW w' := ⟨h.1.below hb, h.2.1.below hb, h.2.2.below (Nat.le_refl _) hb⟩
set_option maxRecDepth 100000 in
set_option maxHeartbeats 3200000 in
theorem names_yy (n : Nat) (hn : n < 256) (s : ByteArray) (m : Int) (w : World) (hA : AllW w) (hp : nm n ≠ [])
    (hO : ∀ wx, AllW wx → Calls Tryd.prog 7 #[.string s] wx fun e w' => e = .returned (.tuple #[.int .u8 m, errV 0]) ∧ wx = w')
    (hR : ∀ wx, Calls Tryd.prog 8 #[.string s] wx fun e w' => e = .returned (.tuple #[.int .u8 m, .bool true]) ∧ Below wx.heap.size wx w') :
    Calls Tryd.prog 3 #[.int .u8 n, .string s] w fun e w' => e = .returned (.bool true) ∧ Below w.heap.size w w' := by
  have h1 := fun wx (h : AllW wx) => name_any n hn wx h.1.1
  have h2 := namer_any n hn
  unfold NameIs at h2
  have h3 := fun wx (h : AllW wx) => float_any n hn wx h.2.1
  have h4 := flr_any n hn
  unfold FlIs at h4
  have h5 := fun wx (h : AllW wx) => sure_any wx h.1
  have h6 := fun wx (h : AllW wx) => num_any 1 wx h.2.2
  have h7 := fun wx (h : AllW wx) => op_yes (nm n) n hp hn rfl (once_first n hn hp) wx h.1.1
  have t0 : (str (nm n)).toList.isEmpty = false := str_ie hp
  have t1 : ((str (nm n)).toList == (str (nm n)).toList) = true := str_beq rfl
  simp only [errV_0] at h7
  simp only [errV_1] at h6
  simp only [errV_0] at hO
  have H1 := hide h1; have H2 := hide h2; have H3 := hide h3; have H4 := hide h4; have H5 := hide h5; have H6 := hide h6; have H7 := hide h7; have HO := hide hO; have HR := hide hR
  have HA0 := hide hA; have HB0 := hide (Below.refl w.heap.size w)
  clear h1 h2 h3 h4 h5 h6 h7 hO hR hA hp
  generalize str (nm n) = q at *
  generalize flt n = b at *
  go_enter Tryd.func3, Tryd.ntmps3
  go_wp2_with fail
  refine (unhide HO _ (unhide HA0)).mono ?_
  rintro e wn ⟨rfl, rfl⟩
  go_wp2_with fail
  refine (unhide HR _).mono ?_
  rintro e w1 ⟨rfl, hb⟩
  have HB1 := hide (Below.on (unhide HB0) hb)
  have HA1 := hide ((unhide HA0).below hb); clear hb HA0 HB0
  go_wp2_with fail
  refine (unhide H1 _ (unhide HA1)).mono ?_
  rintro e wn ⟨rfl, rfl⟩
  go_wp2_with fail
  refine (unhide H7 _ (unhide HA1)).mono ?_
  rintro e wn ⟨rfl, rfl⟩
  go_wp2_with fail
  refine (unhide H1 _ (unhide HA1)).mono ?_
  rintro e wn ⟨rfl, rfl⟩
  go_wp2_with fail
  refine (unhide H2 _).mono ?_
  rintro e w2 ⟨rfl, hb⟩
  have HB2 := hide (Below.on (unhide HB1) hb)
  have HA2 := hide ((unhide HA1).below hb); clear hb HA1 HB1
  go_wp2_with fail
  refine (unhide H3 _ (unhide HA2)).mono ?_
  rintro e w3 ⟨rfl, hb⟩
  have HB3 := hide (Below.on (unhide HB2) hb)
  have HA3 := hide ((unhide HA2).below hb); clear hb HA2 HB2
  go_wp2_with fail
  refine (unhide H4 _).mono ?_
  rintro e wn ⟨rfl, rfl⟩
  go_wp2_with fail
  refine (unhide H1 _ (unhide HA3)).mono ?_
  rintro e wn ⟨rfl, rfl⟩
  go_wp2_with fail
  refine (unhide H5 _ (unhide HA3)).mono ?_
  rintro e w4 ⟨rfl, hb⟩
  have HB4 := hide (Below.on (unhide HB3) hb)
  have HA4 := hide ((unhide HA3).below hb); clear hb HA3 HB3
  go_wp2
  go_ret
  exact ⟨rfl, unhide HB4⟩
set_option maxRecDepth 100000 in
set_option maxHeartbeats 3200000 in
theorem names_yn (n : Nat) (hn : n < 256) (s : ByteArray) (m : Int) (w : World) (hA : AllW w) (hp : nm n = [])
    (hO : ∀ wx, AllW wx → Calls Tryd.prog 7 #[.string s] wx fun e w' => e = .returned (.tuple #[.int .u8 m, errV 0]) ∧ wx = w')
    (hR : ∀ wx, Calls Tryd.prog 8 #[.string s] wx fun e w' => e = .returned (.tuple #[.int .u8 m, .bool true]) ∧ Below wx.heap.size wx w') :
    Calls Tryd.prog 3 #[.int .u8 n, .string s] w fun e w' => e = .returned (.bool true) ∧ Below w.heap.size w w' := by
  have h1 := fun wx (h : AllW wx) => name_any n hn wx h.1.1
  have h2 := namer_any n hn
  unfold NameIs at h2
  have h3 := fun wx (h : AllW wx) => float_any n hn wx h.2.1
  have h4 := flr_any n hn
  unfold FlIs at h4
  have h5 := fun wx (h : AllW wx) => sure_any wx h.1
  have h6 := fun wx (h : AllW wx) => num_any 1 wx h.2.2
  have h7 := fun (wx : World) (h : AllW wx) => op_none wx
  rw [← hp] at h7
  have t1 : ((str (nm n)).toList == (str (nm n)).toList) = true := str_beq rfl
  simp only [errV_1] at h7
  simp only [errV_1] at h6
  simp only [errV_0] at hO
  rw [hp, str_nil] at h1 h2 h7
  clear t1
  have H1 := hide h1; have H2 := hide h2; have H3 := hide h3; have H4 := hide h4; have H5 := hide h5; have H6 := hide h6; have H7 := hide h7; have HO := hide hO; have HR := hide hR
  have HA0 := hide hA; have HB0 := hide (Below.refl w.heap.size w)
  clear h1 h2 h3 h4 h5 h6 h7 hO hR hA hp
  generalize flt n = b at *
  go_enter Tryd.func3, Tryd.ntmps3
  go_wp2_with fail
  refine (unhide HO _ (unhide HA0)).mono ?_
  rintro e wn ⟨rfl, rfl⟩
  go_wp2_with fail
  refine (unhide HR _).mono ?_
  rintro e w1 ⟨rfl, hb⟩
  have HB1 := hide (Below.on (unhide HB0) hb)
  have HA1 := hide ((unhide HA0).below hb); clear hb HA0 HB0
  go_wp2_with fail
  refine (unhide H1 _ (unhide HA1)).mono ?_
  rintro e wn ⟨rfl, rfl⟩
  go_wp2_with fail
  refine (unhide H7 _ (unhide HA1)).mono ?_
  rintro e wn ⟨rfl, rfl⟩
  go_wp2_with fail
  refine (unhide H1 _ (unhide HA1)).mono ?_
  rintro e wn ⟨rfl, rfl⟩
  go_wp2_with fail
  refine (unhide H2 _).mono ?_
  rintro e w2 ⟨rfl, hb⟩
  have HB2 := hide (Below.on (unhide HB1) hb)
  have HA2 := hide ((unhide HA1).below hb); clear hb HA1 HB1
  go_wp2_with fail
  refine (unhide H3 _ (unhide HA2)).mono ?_
  rintro e w3 ⟨rfl, hb⟩
  have HB3 := hide (Below.on (unhide HB2) hb)
  have HA3 := hide ((unhide HA2).below hb); clear hb HA2 HB2
  go_wp2_with fail
  refine (unhide H4 _).mono ?_
  rintro e wn ⟨rfl, rfl⟩
  go_wp2_with fail
  refine (unhide H1 _ (unhide HA3)).mono ?_
  rintro e wn ⟨rfl, rfl⟩
  go_wp2_with fail
  refine (unhide H6 _ (unhide HA3)).mono ?_
  rintro e w4 ⟨rfl, hb⟩
  have HB4 := hide (Below.on (unhide HB3) hb)
  have HA4 := hide ((unhide HA3).below hb); clear hb HA3 HB3
  go_wp2_with fail
  refine (unhide H5 _ (unhide HA4)).mono ?_
  rintro e w5 ⟨rfl, hb⟩
  have HB5 := hide (Below.on (unhide HB4) hb)
  have HA5 := hide ((unhide HA4).below hb); clear hb HA4 HB4
  go_wp2
  go_ret
  exact ⟨rfl, unhide HB5⟩
set_option maxRecDepth 100000 in
set_option maxHeartbeats 3200000 in
theorem names_ny (n : Nat) (hn : n < 256) (s : ByteArray) (m : Int) (w : World) (hA : AllW w) (hp : nm n ≠ [])
    (hO : ∀ wx, AllW wx → Calls Tryd.prog 7 #[.string s] wx fun e w' => e = .returned (.tuple #[.int .u8 m, errV 1]) ∧ wx = w')
    (hR : ∀ wx, Calls Tryd.prog 8 #[.string s] wx fun e w' => e = .returned (.tuple #[.int .u8 m, .bool false]) ∧ Below wx.heap.size wx w') :
    Calls Tryd.prog 3 #[.int .u8 n, .string s] w fun e w' => e = .returned (.bool true) ∧ Below w.heap.size w w' := by
  have h1 := fun wx (h : AllW wx) => name_any n hn wx h.1.1
  have h2 := namer_any n hn
  unfold NameIs at h2
  have h3 := fun wx (h : AllW wx) => float_any n hn wx h.2.1
  have h4 := flr_any n hn
  unfold FlIs at h4
  have h5 := fun wx (h : AllW wx) => sure_any wx h.1
  have h6 := fun wx (h : AllW wx) => num_any 1 wx h.2.2
  have h7 := fun wx (h : AllW wx) => op_yes (nm n) n hp hn rfl (once_first n hn hp) wx h.1.1
  have t0 : (str (nm n)).toList.isEmpty = false := str_ie hp
  have t1 : ((str (nm n)).toList == (str (nm n)).toList) = true := str_beq rfl
  simp only [errV_0] at h7
  simp only [errV_1] at h6
  simp only [errV_1] at hO
  have H1 := hide h1; have H2 := hide h2; have H3 := hide h3; have H4 := hide h4; have H5 := hide h5; have H6 := hide h6; have H7 := hide h7; have HO := hide hO; have HR := hide hR
  have HA0 := hide hA; have HB0 := hide (Below.refl w.heap.size w)
  clear h1 h2 h3 h4 h5 h6 h7 hO hR hA hp
  generalize str (nm n) = q at *
  generalize flt n = b at *
  go_enter Tryd.func3, Tryd.ntmps3
  go_wp2_with fail
  refine (unhide HO _ (unhide HA0)).mono ?_
  rintro e wn ⟨rfl, rfl⟩
  go_wp2_with fail
  refine (unhide HR _).mono ?_
  rintro e w1 ⟨rfl, hb⟩
  have HB1 := hide (Below.on (unhide HB0) hb)
  have HA1 := hide ((unhide HA0).below hb); clear hb HA0 HB0
  go_wp2_with fail
  refine (unhide H1 _ (unhide HA1)).mono ?_
  rintro e wn ⟨rfl, rfl⟩
  go_wp2_with fail
  refine (unhide H7 _ (unhide HA1)).mono ?_
  rintro e wn ⟨rfl, rfl⟩
  go_wp2_with fail
  refine (unhide H1 _ (unhide HA1)).mono ?_
  rintro e wn ⟨rfl, rfl⟩
  go_wp2_with fail
  refine (unhide H2 _).mono ?_
  rintro e w2 ⟨rfl, hb⟩
  have HB2 := hide (Below.on (unhide HB1) hb)
  have HA2 := hide ((unhide HA1).below hb); clear hb HA1 HB1
  go_wp2_with fail
  refine (unhide H3 _ (unhide HA2)).mono ?_
  rintro e w3 ⟨rfl, hb⟩
  have HB3 := hide (Below.on (unhide HB2) hb)
  have HA3 := hide ((unhide HA2).below hb); clear hb HA2 HB2
  go_wp2_with fail
  refine (unhide H4 _).mono ?_
  rintro e wn ⟨rfl, rfl⟩
  go_wp2_with fail
  refine (unhide H6 _ (unhide HA3)).mono ?_
  rintro e w4 ⟨rfl, hb⟩
  have HB4 := hide (Below.on (unhide HB3) hb)
  have HA4 := hide ((unhide HA3).below hb); clear hb HA3 HB3
  go_wp2_with fail
  refine (unhide H1 _ (unhide HA4)).mono ?_
  rintro e wn ⟨rfl, rfl⟩
  go_wp2_with fail
  refine (unhide H5 _ (unhide HA4)).mono ?_
  rintro e w5 ⟨rfl, hb⟩
  have HB5 := hide (Below.on (unhide HB4) hb)
  have HA5 := hide ((unhide HA4).below hb); clear hb HA4 HB4
  go_wp2
  go_ret
  exact ⟨rfl, unhide HB5⟩
set_option maxRecDepth 100000 in
set_option maxHeartbeats 3200000 in
theorem names_nn (n : Nat) (hn : n < 256) (s : ByteArray) (m : Int) (w : World) (hA : AllW w) (hp : nm n = [])
    (hO : ∀ wx, AllW wx → Calls Tryd.prog 7 #[.string s] wx fun e w' => e = .returned (.tuple #[.int .u8 m, errV 1]) ∧ wx = w')
    (hR : ∀ wx, Calls Tryd.prog 8 #[.string s] wx fun e w' => e = .returned (.tuple #[.int .u8 m, .bool false]) ∧ Below wx.heap.size wx w') :
    Calls Tryd.prog 3 #[.int .u8 n, .string s] w fun e w' => e = .returned (.bool true) ∧ Below w.heap.size w w' := by
  have h1 := fun wx (h : AllW wx) => name_any n hn wx h.1.1
  have h2 := namer_any n hn
  unfold NameIs at h2
  have h3 := fun wx (h : AllW wx) => float_any n hn wx h.2.1
  have h4 := flr_any n hn
  unfold FlIs at h4
  have h5 := fun wx (h : AllW wx) => sure_any wx h.1
  have h6 := fun wx (h : AllW wx) => num_any 1 wx h.2.2
  have h7 := fun (wx : World) (h : AllW wx) => op_none wx
  rw [← hp] at h7
  have t1 : ((str (nm n)).toList == (str (nm n)).toList) = true := str_beq rfl
  simp only [errV_1] at h7
  simp only [errV_1] at h6
  simp only [errV_1] at hO
  rw [hp, str_nil] at h1 h2 h7
  clear t1
  have H1 := hide h1; have H2 := hide h2; have H3 := hide h3; have H4 := hide h4; have H5 := hide h5; have H6 := hide h6; have H7 := hide h7; have HO := hide hO; have HR := hide hR
  have HA0 := hide hA; have HB0 := hide (Below.refl w.heap.size w)
  clear h1 h2 h3 h4 h5 h6 h7 hO hR hA hp
  generalize flt n = b at *
  go_enter Tryd.func3, Tryd.ntmps3
  go_wp2_with fail
  refine (unhide HO _ (unhide HA0)).mono ?_
  rintro e wn ⟨rfl, rfl⟩
  go_wp2_with fail
  refine (unhide HR _).mono ?_
  rintro e w1 ⟨rfl, hb⟩
  have HB1 := hide (Below.on (unhide HB0) hb)
  have HA1 := hide ((unhide HA0).below hb); clear hb HA0 HB0
  go_wp2_with fail
  refine (unhide H1 _ (unhide HA1)).mono ?_
  rintro e wn ⟨rfl, rfl⟩
  go_wp2_with fail
  refine (unhide H7 _ (unhide HA1)).mono ?_
  rintro e wn ⟨rfl, rfl⟩
  go_wp2_with fail
  refine (unhide H1 _ (unhide HA1)).mono ?_
  rintro e wn ⟨rfl, rfl⟩
  go_wp2_with fail
  refine (unhide H2 _).mono ?_
  rintro e w2 ⟨rfl, hb⟩
  have HB2 := hide (Below.on (unhide HB1) hb)
  have HA2 := hide ((unhide HA1).below hb); clear hb HA1 HB1
  go_wp2_with fail
  refine (unhide H3 _ (unhide HA2)).mono ?_
  rintro e w3 ⟨rfl, hb⟩
  have HB3 := hide (Below.on (unhide HB2) hb)
  have HA3 := hide ((unhide HA2).below hb); clear hb HA2 HB2
  go_wp2_with fail
  refine (unhide H4 _).mono ?_
  rintro e wn ⟨rfl, rfl⟩
  go_wp2_with fail
  refine (unhide H6 _ (unhide HA3)).mono ?_
  rintro e w4 ⟨rfl, hb⟩
  have HB4 := hide (Below.on (unhide HB3) hb)
  have HA4 := hide ((unhide HA3).below hb); clear hb HA3 HB3
  go_wp2_with fail
  refine (unhide H1 _ (unhide HA4)).mono ?_
  rintro e wn ⟨rfl, rfl⟩
  go_wp2_with fail
  refine (unhide H6 _ (unhide HA4)).mono ?_
  rintro e w5 ⟨rfl, hb⟩
  have HB5 := hide (Below.on (unhide HB4) hb)
  have HA5 := hide ((unhide HA4).below hb); clear hb HA4 HB4
  go_wp2_with fail
  refine (unhide H5 _ (unhide HA5)).mono ?_
  rintro e w6 ⟨rfl, hb⟩
  have HB6 := hide (Below.on (unhide HB5) hb)
  have HA6 := hide ((unhide HA5).below hb); clear hb HA5 HB5
  go_wp2
  go_ret
  exact ⟨rfl, unhide HB6⟩
theorem names_any (n : Nat) (hn : n < 256) (s : ByteArray) (w : World) (hA : AllW w) :
    Calls Tryd.prog 3 #[.int .u8 n, .string s] w fun e w' => e = .returned (.bool true) ∧ Below w.heap.size w w' := by
  obtain ⟨l, rfl⟩ : ∃ l, s = str l := ⟨s.data.toList, rfl⟩
  by_cases hl : l = []
  · subst hl
    by_cases hp : nm n = []
    · exact names_nn n hn _ 0 w hA hp (fun wx _ => op_none wx) (fun wx => opr_none wx)
    · exact names_ny n hn _ 0 w hA hp (fun wx _ => op_none wx) (fun wx => opr_none wx)
  by_cases he : ∃ k, k < 256 ∧ nm k = l
  · obtain ⟨k, hk, rfl⟩ := he
    by_cases hp : nm n = []
    · exact names_yn n hn _ k w hA hp (fun wx h => op_yes _ k hl hk rfl (once_first k hk hl) wx h.1.1) (fun wx => opr_yes _ k hl hk rfl (once_first k hk hl) wx)
    · exact names_yy n hn _ k w hA hp (fun wx h => op_yes _ k hl hk rfl (once_first k hk hl) wx h.1.1) (fun wx => opr_yes _ k hl hk rfl (once_first k hk hl) wx)
  · have hf : ∀ j, j < 256 → nm j ≠ l := fun j hj e => he ⟨j, hj, e⟩
    by_cases hp : nm n = []
    · exact names_nn n hn _ 0 w hA hp (fun wx h => op_no _ hl hf wx h.1.1) (fun wx => opr_no _ hl hf wx)
    · exact names_ny n hn _ 0 w hA hp (fun wx h => op_no _ hl hf wx h.1.1) (fun wx => opr_no _ hl hf wx)
end Go.Proofs.YtenbpmbaiddafaaDoor
