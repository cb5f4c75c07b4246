/- Packets: the law's own example: the fixed fact holds. Under: the type of errors as it is laid. -/
import Derived.Test.YtbbcncofdhhflaaDoorPK8
import Derived.Test.YtbbcncofdhhflaaDoorPC7
namespace Go.Proofs.YtbbcncofdhhflaaDoor
open Go.RowKit

def pk0 : Pkt := ⟨2, 258, Hel.zero, 3, ⟨#[97, 98, 99, 100, 101, 102, 103, 104]⟩⟩
def pk8 : Pkt := ⟨8, 0, Hel.zero, 0, ⟨#[]⟩⟩
def pk9 : Pkt := ⟨8, 0, Hel.zero, 1, ⟨#[]⟩⟩
def pk1 : Pkt := ⟨1, 0, ⟨1, 1, 0, 0, 0, false, false, false, false, 0⟩, 0, ⟨#[]⟩⟩
def pb0 : ByteArray := pk0.encT
def pb8 : ByteArray := pk8.encT
def pb1 : ByteArray := pk1.encT

theorem encT_size {p : Pkt} (hr : p.right = true) : p.encT.size = p.body.length + 4 := by
  unfold Pkt.encT
  rw [if_pos hr, txt_size, seal_length]
theorem pk0_right : pk0.right = true := by decide +kernel
theorem pk8_right : pk8.right = true := by decide +kernel
theorem pk1_right : pk1.right = true := by decide +kernel
theorem pk9_right : pk9.right = false := by decide +kernel
theorem pkz_right : Pkt.zero.right = false := by decide +kernel
theorem pk0_wide : pk0.wide := ⟨by decide, Hel.zero_wide⟩
theorem pk8_wide : pk8.wide := ⟨by decide, Hel.zero_wide⟩
theorem pk1_wide : pk1.wide := ⟨by decide, by unfold Hel.wide pk1; decide⟩
theorem pkz_wide : Pkt.zero.wide := ⟨by decide, Hel.zero_wide⟩
theorem pb0_size : pb0.size = 22 := by unfold pb0; rw [encT_size pk0_right, body_length]; rfl
theorem pb8_size : pb8.size = 13 := by unfold pb8; rw [encT_size pk8_right, body_length]; rfl
theorem pb1_size : pb1.size = 51 := by unfold pb1; rw [encT_size pk1_right, body_length]; rfl

theorem pa0 (w : World) : Calls Tryd.prog 8 #[.agg #[.int .i64 2, .int .u64 258, .int .i64 0, .int .u64 0, .int .u64 0, .int .u64 0, .int .u64 0, .bool false, .bool false, .bool false, .bool false, .int .u32 0, .int .i64 3, .string ⟨#[97, 98, 99, 100, 101, 102, 103, 104]⟩]] w fun e w' => e = .returned (.tuple #[.string pb0, .int .i64 0]) ∧ Below w.heap.size w w' := by
  have := pencode_any pk0 w pk0_wide
  rw [show pk0.encE = 0 from by unfold Pkt.encE; rw [if_pos pk0_right]] at this
  exact this
theorem pa1 (w : World) (he : Etyp w) : Calls Tryd.prog 13 #[.string pb0] w fun e w' => e = .returned (.tuple #[.agg #[.int .i64 2, .int .u64 258, .int .i64 0, .int .u64 0, .int .u64 0, .int .u64 0, .int .u64 0, .bool false, .bool false, .bool false, .bool false, .int .u32 0, .int .i64 3, .string ⟨#[97, 98, 99, 100, 101, 102, 103, 104]⟩], .int .i64 0]) ∧ Below w.heap.size w w' := by
  have := pdecode_any pb0 w (by rw [pb0_size]; decide) he
  rw [show decP pb0 = (pk0, 0) from decP_encT pk0_wide pk0_right] at this
  exact this
theorem pa2 (w : World) (he : Etyp w) : Calls Tryd.prog 15 #[.string pb0, .int .u64 258] w fun e w' => e = .returned (.tuple #[.agg #[.int .i64 2, .int .u64 258, .int .i64 0, .int .u64 0, .int .u64 0, .int .u64 0, .int .u64 0, .bool false, .bool false, .bool false, .bool false, .int .u32 0, .int .i64 3, .string ⟨#[97, 98, 99, 100, 101, 102, 103, 104]⟩], .int .i64 0]) ∧ Below w.heap.size w w' := by
  have := pread_any pb0 258 w (by rw [pb0_size]; decide) he
  rw [show readP pb0 258 = (pk0, 0) from by unfold readP; rw [show decP pb0 = (pk0, 0) from decP_encT pk0_wide pk0_right]; rfl] at this
  exact this
theorem pa3 (w : World) (he : Etyp w) : Calls Tryd.prog 15 #[.string pb0, .int .u64 259] w fun e w' => e = .returned (.tuple #[.agg #[.int .i64 0, .int .u64 0, .int .i64 0, .int .u64 0, .int .u64 0, .int .u64 0, .int .u64 0, .bool false, .bool false, .bool false, .bool false, .int .u32 0, .int .i64 0, .string ⟨#[]⟩], .int .i64 16]) ∧ Below w.heap.size w w' := by
  have := pread_any pb0 259 w (by rw [pb0_size]; decide) he
  rw [show readP pb0 259 = (Pkt.zero, 16) from by unfold readP; rw [show decP pb0 = (pk0, 0) from decP_encT pk0_wide pk0_right]; rfl] at this
  exact this
theorem pa4 (w : World) : Calls Tryd.prog 8 #[.agg #[.int .i64 0, .int .u64 0, .int .i64 0, .int .u64 0, .int .u64 0, .int .u64 0, .int .u64 0, .bool false, .bool false, .bool false, .bool false, .int .u32 0, .int .i64 0, .string ⟨#[]⟩]] w fun e w' => e = .returned (.tuple #[.string ⟨#[]⟩, .int .i64 1]) ∧ Below w.heap.size w w' := by
  have := pencode_any Pkt.zero w pkz_wide
  rw [show Pkt.zero.encE = 1 from by unfold Pkt.encE; rw [pkz_right]; rfl, show Pkt.zero.encT = ⟨#[]⟩ from by unfold Pkt.encT; rw [pkz_right]; rfl] at this
  exact this
theorem pa5 (w : World) (he : Etyp w) : Calls Tryd.prog 13 #[.string ⟨#[97, 98, 99]⟩] w fun e w' => e = .returned (.tuple #[.agg #[.int .i64 0, .int .u64 0, .int .i64 0, .int .u64 0, .int .u64 0, .int .u64 0, .int .u64 0, .bool false, .bool false, .bool false, .bool false, .int .u32 0, .int .i64 0, .string ⟨#[]⟩], .int .i64 2]) ∧ Below w.heap.size w w' := by
  have := pdecode_any ⟨#[97, 98, 99]⟩ w (by decide) he
  rw [show decP ⟨#[97, 98, 99]⟩ = (Pkt.zero, 2) from by unfold decP; rw [show openE ⟨#[97, 98, 99]⟩ = 2 from rfl]; rfl] at this
  exact this
theorem pa6 (w : World) : Calls Tryd.prog 8 #[.agg #[.int .i64 8, .int .u64 0, .int .i64 0, .int .u64 0, .int .u64 0, .int .u64 0, .int .u64 0, .bool false, .bool false, .bool false, .bool false, .int .u32 0, .int .i64 0, .string ⟨#[]⟩]] w fun e w' => e = .returned (.tuple #[.string pb8, .int .i64 0]) ∧ Below w.heap.size w w' := by
  have := pencode_any pk8 w pk8_wide
  rw [show pk8.encE = 0 from by unfold Pkt.encE; rw [if_pos pk8_right]] at this
  exact this
theorem pa7 (w : World) : Calls Tryd.prog 8 #[.agg #[.int .i64 1, .int .u64 0, .int .i64 1, .int .u64 1, .int .u64 0, .int .u64 0, .int .u64 0, .bool false, .bool false, .bool false, .bool false, .int .u32 0, .int .i64 0, .string ⟨#[]⟩]] w fun e w' => e = .returned (.tuple #[.string pb1, .int .i64 0]) ∧ Below w.heap.size w w' := by
  have := pencode_any pk1 w pk1_wide
  rw [show pk1.encE = 0 from by unfold Pkt.encE; rw [if_pos pk1_right]] at this
  exact this
theorem pa8 (w : World) : Calls Tryd.prog 10 #[.agg #[.int .i64 2, .int .u64 258, .int .i64 0, .int .u64 0, .int .u64 0, .int .u64 0, .int .u64 0, .bool false, .bool false, .bool false, .bool false, .int .u32 0, .int .i64 3, .string ⟨#[97, 98, 99, 100, 101, 102, 103, 104]⟩]] w fun e w' => e = .returned (.bool true) ∧ Below w.heap.size w w' := by
  have := pright_any pk0 w (by decide)
  rw [pk0_right] at this
  exact this
theorem pa9 (w : World) : Calls Tryd.prog 10 #[.agg #[.int .i64 8, .int .u64 0, .int .i64 0, .int .u64 0, .int .u64 0, .int .u64 0, .int .u64 0, .bool false, .bool false, .bool false, .bool false, .int .u32 0, .int .i64 1, .string ⟨#[]⟩]] w fun e w' => e = .returned (.bool false) ∧ Below w.heap.size w w' := by
  have := pright_any pk9 w (by decide)
  rw [pk9_right] at this
  exact this

set_option maxRecDepth 100000 in
set_option maxHeartbeats 16000000 in
theorem palive_any (w : World) (he : Etyp w) : Calls Tryd.prog 7 #[] w fun e w' => e = .returned (.bool true) ∧ Below w.heap.size w w' := by
  have HT := Lib.hid he; clear he
  have H0 := Lib.hid ((Held.refl w).lay [.int .i64 2, .int .u64 258, .int .i64 0, .int .u64 0, .int .u64 0, .int .u64 0, .int .u64 0, .bool false, .bool false, .bool false, .bool false, .int .u32 0, .int .i64 3, .string ⟨#[97, 98, 99, 100, 101, 102, 103, 104]⟩] 30)
  have z0 := pb0_size
  have z8 := pb8_size
  have z1 := pb1_size
  go_enter Tryd.func7, Tryd.ntmps7
  have k0 := H0.out.b0.cell
  go_wp2_with fail
  refine (pa0 _).mono ?_
  rintro e w1 ⟨rfl, hb⟩
  have H1 := Lib.hid (H0.out.up hb)
  clear hb k0
  have k0 := H1.out.b0.cell
  go_wp2_with fail
  refine (pa1 _ (HT.out.up H1.out.below)).mono ?_
  rintro e w2 ⟨rfl, hb⟩
  have H2 := Lib.hid ((H1.out.up hb).lay [.int .i64 2, .int .u64 258, .int .i64 0, .int .u64 0, .int .u64 0, .int .u64 0, .int .u64 0, .bool false, .bool false, .bool false, .bool false, .int .u32 0, .int .i64 3, .string ⟨#[97, 98, 99, 100, 101, 102, 103, 104]⟩] 30)
  clear hb k0
  have k0 := H2.out.b0.cell
  have k1 := H2.out.b1.cell
  go_wp2_with fail
  refine (pa2 _ (HT.out.up H2.out.below)).mono ?_
  rintro e w3 ⟨rfl, hb⟩
  have H3 := Lib.hid ((H2.out.up hb).lay [.int .i64 2, .int .u64 258, .int .i64 0, .int .u64 0, .int .u64 0, .int .u64 0, .int .u64 0, .bool false, .bool false, .bool false, .bool false, .int .u32 0, .int .i64 3, .string ⟨#[97, 98, 99, 100, 101, 102, 103, 104]⟩] 30)
  clear hb k0 k1
  have k0 := H3.out.b0.cell
  have k1 := H3.out.b1.cell
  have k2 := H3.out.b2.cell
  go_wp2_with fail
  refine (pa3 _ (HT.out.up H3.out.below)).mono ?_
  rintro e w4 ⟨rfl, hb⟩
  have H4 := Lib.hid ((H3.out.up hb).lay [.int .i64 0, .int .u64 0, .int .i64 0, .int .u64 0, .int .u64 0, .int .u64 0, .int .u64 0, .bool false, .bool false, .bool false, .bool false, .int .u32 0, .int .i64 0, .string ⟨#[]⟩] 30)
  clear hb k0 k1 k2
  have k0 := H4.out.b0.cell
  have k1 := H4.out.b1.cell
  have k2 := H4.out.b2.cell
  have k3 := H4.out.b3.cell
  go_wp2_with fail
  refine (pa4 _).mono ?_
  rintro e w5 ⟨rfl, hb⟩
  have H5 := Lib.hid (H4.out.up hb)
  clear hb k0 k1 k2 k3
  have k0 := H5.out.b0.cell
  have k1 := H5.out.b1.cell
  have k2 := H5.out.b2.cell
  have k3 := H5.out.b3.cell
  go_wp2_with fail
  refine (pa5 _ (HT.out.up H5.out.below)).mono ?_
  rintro e w6 ⟨rfl, hb⟩
  have H6 := Lib.hid ((H5.out.up hb).lay [.int .i64 0, .int .u64 0, .int .i64 0, .int .u64 0, .int .u64 0, .int .u64 0, .int .u64 0, .bool false, .bool false, .bool false, .bool false, .int .u32 0, .int .i64 0, .string ⟨#[]⟩] 30)
  clear hb k0 k1 k2 k3
  have k0 := H6.out.b0.cell
  have k1 := H6.out.b1.cell
  have k2 := H6.out.b2.cell
  have k3 := H6.out.b3.cell
  have k4 := H6.out.b4.cell
  go_wp2_with fail
  refine (pa6 _).mono ?_
  rintro e w7 ⟨rfl, hb⟩
  have H7 := Lib.hid (H6.out.up hb)
  clear hb k0 k1 k2 k3 k4
  have k0 := H7.out.b0.cell
  have k1 := H7.out.b1.cell
  have k2 := H7.out.b2.cell
  have k3 := H7.out.b3.cell
  have k4 := H7.out.b4.cell
  go_wp2_with fail
  refine (pa7 _).mono ?_
  rintro e w8 ⟨rfl, hb⟩
  have H8 := Lib.hid (H7.out.up hb)
  clear hb k0 k1 k2 k3 k4
  have k0 := H8.out.b0.cell
  have k1 := H8.out.b1.cell
  have k2 := H8.out.b2.cell
  have k3 := H8.out.b3.cell
  have k4 := H8.out.b4.cell
  go_wp2_with fail
  refine (pa8 _).mono ?_
  rintro e w9 ⟨rfl, hb⟩
  have H9 := Lib.hid (H8.out.up hb)
  clear hb k0 k1 k2 k3 k4
  have k0 := H9.out.b0.cell
  have k1 := H9.out.b1.cell
  have k2 := H9.out.b2.cell
  have k3 := H9.out.b3.cell
  have k4 := H9.out.b4.cell
  go_wp2_with fail
  refine (pa9 _).mono ?_
  rintro e w10 ⟨rfl, hb⟩
  have H10 := Lib.hid (H9.out.up hb)
  clear hb k0 k1 k2 k3 k4
  have k0 := H10.out.b0.cell
  have k1 := H10.out.b1.cell
  have k2 := H10.out.b2.cell
  have k3 := H10.out.b3.cell
  have k4 := H10.out.b4.cell
  go_wp2_with fail
  go_ret
  exact ⟨rfl, H10.out.below⟩
end Go.Proofs.YtbbcncofdhhflaaDoor
