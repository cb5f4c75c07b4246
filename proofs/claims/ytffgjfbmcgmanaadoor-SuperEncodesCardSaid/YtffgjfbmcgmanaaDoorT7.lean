/- Superblocks: the walk of the law there and back: it answers true, for every superblock and every text. Under: both package variables as they are laid. -/
import Derived.Test.YtffgjfbmcgmanaaDoorT6
namespace Go.Proofs.YtffgjfbmcgmanaaDoor
open Go.RowKit

set_option maxRecDepth 100000 in
set_option maxHeartbeats 4000000 in
theorem back_yes_good (s : Sup) (x : ByteArray) (a : Addr) (w : World) (hw : s.wide) (hx : (x.size : Int) ≤ 500) (hg : Glob w a) (hr : s.right = true) (hd : (dec x).2 = 0) :
    Calls Tryd.prog 5 #[supV s, .string x] w (Yes w) := by
  have he := fun w => encode_yes s w hw hr
  have hdb := fun w hg => decode_any s.bytes a w (by rw [Sup.bytes, txt_size, seal_length, body_length]; decide) hg
  rw [dec_bytes s hw hr] at hdb
  have hsz : (s.bytes.size : Int) = 41 := by rw [Sup.bytes, txt_size, seal_length, body_length]; rfl
  generalize s.bytes = y at *
  have hdx := fun w hg => decode_any x a w (by omega) hg
  obtain ⟨g1, g2, g3⟩ := bytes_dec x hd
  have he2 := fun w => encode_yes (dec x).1 w g2 g1
  have hr2 := fun w => rsright_any (dec x).1 w
  rw [g3] at he2
  rw [g1] at hr2
  rw [hd] at hdx
  clear g1 g2 g3 hd
  generalize (dec x).1 = u at *
  obtain ⟨n2, c2, b2, o2, p2, i2, r2, d2⟩ := u
  clear hw hr
  obtain ⟨n, c, b, o, p, i, r, d⟩ := s
  dsimp only [supV, Sup.zero] at *
  have HE := Lib.hid he; clear he
  have HDX := Lib.hid hdx; clear hdx
  have HDB := Lib.hid hdb; clear hdb
  have HE2 := Lib.hid he2; clear he2
  have HR2 := Lib.hid hr2; clear hr2
  have HG := Lib.hid hg; clear hg
  have H0 := Lib.hid ((Held.refl w).lay [.int .i64 n, .int .u64 c, .int .u64 b, .int .u64 o, .int .u64 p, .bool i, .bool r, .bool d] 27)
  go_enter Tryd.func5, Tryd.ntmps5
  go_wp2_with fail
  refine (alive_any a _ (HG.out.up H0.out.below)).mono ?_
  rintro e w1 ⟨rfl, hb⟩
  have H1 := Lib.hid (H0.out.up hb)
  clear hb H0
  have k := H1.out.b0.cell
  go_wp2_with fail
  refine (HE.out _).mono ?_
  rintro e w2 ⟨rfl, hb⟩
  have H2 := Lib.hid (H1.out.up hb)
  clear hb H1 k
  go_wp2_with fail
  refine (HDB.out _ (HG.out.up H2.out.below)).mono ?_
  rintro e w3 ⟨rfl, hb⟩
  have H3 := Lib.hid ((H2.out.up hb).lay [.int .i64 n, .int .u64 c, .int .u64 b, .int .u64 o, .int .u64 p, .bool i, .bool r, .bool d] 27)
  clear hb H2
  have k0 := H3.out.b0.cell
  have k1 := H3.out.b1.cell
  go_wp2_with fail
  refine (HDX.out _ (HG.out.up H3.out.below)).mono ?_
  rintro e w4 ⟨rfl, hb⟩
  have H4 := Lib.hid ((H3.out.up hb).lay [.int .i64 n2, .int .u64 c2, .int .u64 b2, .int .u64 o2, .int .u64 p2, .bool i2, .bool r2, .bool d2] 27)
  clear hb H3 k0 k1
  have k0 := H4.out.b0.cell
  go_wp2_with fail
  refine (HE2.out _).mono ?_
  rintro e w5 ⟨rfl, hb⟩
  have H5 := Lib.hid (H4.out.up hb)
  clear hb H4 k0
  have k0 := H5.out.b0.cell
  go_wp2_with fail
  refine (HR2.out _).mono ?_
  rintro e w6 ⟨rfl, hb⟩
  have H6 := Lib.hid (H5.out.up hb)
  clear hb H5 k0
  go_wp2_with fail
  go_ret
  exact ⟨rfl, H6.out.below⟩

set_option maxRecDepth 100000 in
set_option maxHeartbeats 4000000 in
theorem back_yes_bad (s : Sup) (x : ByteArray) (a : Addr) (w : World) (hw : s.wide) (hx : (x.size : Int) ≤ 500) (hg : Glob w a) (hr : s.right = true) (hd : (dec x).2 ≠ 0) :
    Calls Tryd.prog 5 #[supV s, .string x] w (Yes w) := by
  have he := fun w => encode_yes s w hw hr
  have hdb := fun w hg => decode_any s.bytes a w (by rw [Sup.bytes, txt_size, seal_length, body_length]; decide) hg
  rw [dec_bytes s hw hr] at hdb
  have hsz : (s.bytes.size : Int) = 41 := by rw [Sup.bytes, txt_size, seal_length, body_length]; rfl
  generalize s.bytes = y at *
  have hdx := fun w hg => decode_any x a w (by omega) hg
  have hz := dec_zero x hd
  rw [hz] at hdx
  have hm : ((dec x).2 != 0) = true := bne_iff_ne.2 hd
  clear hz hd
  generalize (dec x).2 = m at *
  clear hw hr
  obtain ⟨n, c, b, o, p, i, r, d⟩ := s
  dsimp only [supV, Sup.zero] at *
  have HE := Lib.hid he; clear he
  have HDX := Lib.hid hdx; clear hdx
  have HDB := Lib.hid hdb; clear hdb
  have HG := Lib.hid hg; clear hg
  have H0 := Lib.hid ((Held.refl w).lay [.int .i64 n, .int .u64 c, .int .u64 b, .int .u64 o, .int .u64 p, .bool i, .bool r, .bool d] 27)
  go_enter Tryd.func5, Tryd.ntmps5
  go_wp2_with fail
  refine (alive_any a _ (HG.out.up H0.out.below)).mono ?_
  rintro e w1 ⟨rfl, hb⟩
  have H1 := Lib.hid (H0.out.up hb)
  clear hb H0
  have k := H1.out.b0.cell
  go_wp2_with fail
  refine (HE.out _).mono ?_
  rintro e w2 ⟨rfl, hb⟩
  have H2 := Lib.hid (H1.out.up hb)
  clear hb H1 k
  go_wp2_with fail
  refine (HDB.out _ (HG.out.up H2.out.below)).mono ?_
  rintro e w3 ⟨rfl, hb⟩
  have H3 := Lib.hid ((H2.out.up hb).lay [.int .i64 n, .int .u64 c, .int .u64 b, .int .u64 o, .int .u64 p, .bool i, .bool r, .bool d] 27)
  clear hb H2
  have k0 := H3.out.b0.cell
  have k1 := H3.out.b1.cell
  go_wp2_with fail
  refine (HDX.out _ (HG.out.up H3.out.below)).mono ?_
  rintro e w4 ⟨rfl, hb⟩
  have H4 := Lib.hid ((H3.out.up hb).lay [.int .i64 0, .int .u64 0, .int .u64 0, .int .u64 0, .int .u64 0, .bool false, .bool false, .bool false] 27)
  clear hb H3 k0 k1
  have k0 := H4.out.b0.cell
  go_wp2_with fail
  go_ret
  exact ⟨rfl, H4.out.below⟩

set_option maxRecDepth 100000 in
set_option maxHeartbeats 4000000 in
theorem back_no_good (s : Sup) (x : ByteArray) (a : Addr) (w : World) (_hw : s.wide) (hx : (x.size : Int) ≤ 500) (hg : Glob w a) (hr : s.right = false) (hd : (dec x).2 = 0) :
    Calls Tryd.prog 5 #[supV s, .string x] w (Yes w) := by
  have he := fun w => encode_no s w hr
  have hdx := fun w hg => decode_any x a w (by omega) hg
  obtain ⟨g1, g2, g3⟩ := bytes_dec x hd
  have he2 := fun w => encode_yes (dec x).1 w g2 g1
  have hr2 := fun w => rsright_any (dec x).1 w
  rw [g3] at he2
  rw [g1] at hr2
  rw [hd] at hdx
  clear g1 g2 g3 hd
  generalize (dec x).1 = u at *
  obtain ⟨n2, c2, b2, o2, p2, i2, r2, d2⟩ := u
  clear _hw hr
  obtain ⟨n, c, b, o, p, i, r, d⟩ := s
  dsimp only [supV, Sup.zero] at *
  have HE := Lib.hid he; clear he
  have HDX := Lib.hid hdx; clear hdx
  have HE2 := Lib.hid he2; clear he2
  have HR2 := Lib.hid hr2; clear hr2
  have HG := Lib.hid hg; clear hg
  have H0 := Lib.hid ((Held.refl w).lay [.int .i64 n, .int .u64 c, .int .u64 b, .int .u64 o, .int .u64 p, .bool i, .bool r, .bool d] 27)
  go_enter Tryd.func5, Tryd.ntmps5
  go_wp2_with fail
  refine (alive_any a _ (HG.out.up H0.out.below)).mono ?_
  rintro e w1 ⟨rfl, hb⟩
  have H1 := Lib.hid (H0.out.up hb)
  clear hb H0
  have k := H1.out.b0.cell
  go_wp2_with fail
  refine (HE.out _).mono ?_
  rintro e w2 ⟨rfl, hb⟩
  have H2 := Lib.hid (H1.out.up hb)
  clear hb H1 k
  go_wp2_with fail
  refine (HDX.out _ (HG.out.up H2.out.below)).mono ?_
  rintro e w3 ⟨rfl, hb⟩
  have H3 := Lib.hid ((H2.out.up hb).lay [.int .i64 n2, .int .u64 c2, .int .u64 b2, .int .u64 o2, .int .u64 p2, .bool i2, .bool r2, .bool d2] 27)
  clear hb H2
  have k0 := H3.out.b0.cell
  go_wp2_with fail
  refine (HE2.out _).mono ?_
  rintro e w4 ⟨rfl, hb⟩
  have H4 := Lib.hid (H3.out.up hb)
  clear hb H3 k0
  have k0 := H4.out.b0.cell
  go_wp2_with fail
  refine (HR2.out _).mono ?_
  rintro e w5 ⟨rfl, hb⟩
  have H5 := Lib.hid (H4.out.up hb)
  clear hb H4 k0
  go_wp2_with fail
  go_ret
  exact ⟨rfl, H5.out.below⟩

set_option maxRecDepth 100000 in
set_option maxHeartbeats 4000000 in
theorem back_no_bad (s : Sup) (x : ByteArray) (a : Addr) (w : World) (_hw : s.wide) (hx : (x.size : Int) ≤ 500) (hg : Glob w a) (hr : s.right = false) (hd : (dec x).2 ≠ 0) :
    Calls Tryd.prog 5 #[supV s, .string x] w (Yes w) := by
  have he := fun w => encode_no s w hr
  have hdx := fun w hg => decode_any x a w (by omega) hg
  have hz := dec_zero x hd
  rw [hz] at hdx
  have hm : ((dec x).2 != 0) = true := bne_iff_ne.2 hd
  clear hz hd
  generalize (dec x).2 = m at *
  clear _hw hr
  obtain ⟨n, c, b, o, p, i, r, d⟩ := s
  dsimp only [supV, Sup.zero] at *
  have HE := Lib.hid he; clear he
  have HDX := Lib.hid hdx; clear hdx
  have HG := Lib.hid hg; clear hg
  have H0 := Lib.hid ((Held.refl w).lay [.int .i64 n, .int .u64 c, .int .u64 b, .int .u64 o, .int .u64 p, .bool i, .bool r, .bool d] 27)
  go_enter Tryd.func5, Tryd.ntmps5
  go_wp2_with fail
  refine (alive_any a _ (HG.out.up H0.out.below)).mono ?_
  rintro e w1 ⟨rfl, hb⟩
  have H1 := Lib.hid (H0.out.up hb)
  clear hb H0
  have k := H1.out.b0.cell
  go_wp2_with fail
  refine (HE.out _).mono ?_
  rintro e w2 ⟨rfl, hb⟩
  have H2 := Lib.hid (H1.out.up hb)
  clear hb H1 k
  go_wp2_with fail
  refine (HDX.out _ (HG.out.up H2.out.below)).mono ?_
  rintro e w3 ⟨rfl, hb⟩
  have H3 := Lib.hid ((H2.out.up hb).lay [.int .i64 0, .int .u64 0, .int .u64 0, .int .u64 0, .int .u64 0, .bool false, .bool false, .bool false] 27)
  clear hb H2
  have k0 := H3.out.b0.cell
  go_wp2_with fail
  go_ret
  exact ⟨rfl, H3.out.below⟩

set_option maxHeartbeats 4000000 in
theorem back_law (s : Sup) (x : ByteArray) (a : Addr) (w : World) (hw : s.wide) (hg : Glob w a) : Calls Tryd.prog 5 #[supV s, .string x] w (Yes w) := by
  by_cases hx : 500 < (x.size : Int)
  · obtain ⟨n, c, b, o, p, i, r, d⟩ := s
    dsimp only [supV] at *
    have HG := Lib.hid hg; clear hg hw
    have H0 := Lib.hid ((Held.refl w).lay [.int .i64 n, .int .u64 c, .int .u64 b, .int .u64 o, .int .u64 p, .bool i, .bool r, .bool d] 27)
    go_enter Tryd.func5, Tryd.ntmps5
    go_wp2_with fail
    refine (alive_any a _ (HG.out.up H0.out.below)).mono ?_
    rintro e w1 ⟨rfl, hb⟩
    go_wp2_with fail
    go_ret
    exact ⟨rfl, ext H0.out.below hb⟩
  · by_cases hd : (dec x).2 = 0
    · cases hr : s.right with
      | true => exact back_yes_good s x a w hw (by omega) hg hr hd
      | false => exact back_no_good s x a w hw (by omega) hg hr hd
    · cases hr : s.right with
      | true => exact back_yes_bad s x a w hw (by omega) hg hr hd
      | false => exact back_no_bad s x a w hw (by omega) hg hr hd
end Go.Proofs.YtffgjfbmcgmanaaDoor
