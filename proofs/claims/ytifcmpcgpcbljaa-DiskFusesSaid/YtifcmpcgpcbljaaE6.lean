/- Disks: the document's examples: the fixed fact holds, whatever the world. No condition. -/
import Derived.Test.YtifcmpcgpcbljaaD5
import Derived.Test.YtifcmpcgpcbljaaE5
namespace Go.Proofs.Ytifcmpcgpcbljaa
open Go.RowKit

abbrev e0 : ByteArray := ⟨#[]⟩
abbrev eA : ByteArray := ⟨#[97]⟩
abbrev eB : ByteArray := ⟨#[98]⟩

theorem a_new (w : World) : Calls Try.prog 10 #[.int .i64 2] w (GivesD [e0, e0] [] 0 false 0 w) := new_any 2 w
theorem a_write (A B : Option Addr) (n m : Nat) (w : World) (h : Mem w A n B m [e0, e0] []) : Calls Try.prog 16 #[.agg #[.slice A 2 n, .slice B 0 m, .int .i64 0, .bool false], .int .i64 1, .string eA] w (GivesD [e0, e0] [(1, eA)] 0 false 0 w) :=
  write_any A B n m [e0, e0] [] 0 1 false eA w h (by decide) (by decide) (by decide) (by decide) (by decide)
theorem a_read1 (A B : Option Addr) (n m : Nat) (w : World) (h : Mem w A n B m [e0, e0] [(1, eA)]) : Calls Try.prog 18 #[.agg #[.slice A 2 n, .slice B 1 m, .int .i64 0, .bool false], .int .i64 1] w fun e w' => e = .returned (.tuple #[.string eA, .int .i64 0]) ∧ Below w.heap.size w w' :=
  read_any A B n m [e0, e0] [(1, eA)] 0 1 e0 w h rfl (by decide)
theorem a_lost (A B : Option Addr) (n m : Nat) (w : World) (h : Mem w A n B m [e0, e0] [(1, eA)]) : Calls Try.prog 26 #[.agg #[.slice A 2 n, .slice B 1 m, .int .i64 0, .bool true], .slice none 0 0] w (GivesO [e0, e0] [] 0 false w) :=
  revive_any A B none n m 0 [e0, e0] [(1, eA)] [] 0 true w h (es_nil _ _ _ _) (by decide) (by decide) (by decide) (by decide)
theorem a_kept (A B : Option Addr) (n m : Nat) (K : Option Addr) (w : World) (h : Mem w A n B m [e0, e0] [(1, eA)]) (hk : Es Value.bool w w.heap.size K [true]) : Calls Try.prog 26 #[.agg #[.slice A 2 n, .slice B 1 m, .int .i64 0, .bool true], .slice K 1 1] w (GivesO [e0, eA] [] 0 false w) :=
  revive_any A B K n m 1 [e0, e0] [(1, eA)] [true] 0 true w h hk (by decide) (by decide) (by decide) (by decide)
theorem a_read2 (A B : Option Addr) (n m : Nat) (w : World) (h : Mem w A n B m [e0, e0] []) : Calls Try.prog 18 #[.agg #[.slice A 2 n, .slice B 0 m, .int .i64 0, .bool false], .int .i64 1] w fun e w' => e = .returned (.tuple #[.string e0, .int .i64 0]) ∧ Below w.heap.size w w' :=
  read_any A B n m [e0, e0] [] 0 1 e0 w h rfl (by decide)
theorem a_read3 (A B : Option Addr) (n m : Nat) (w : World) (h : Mem w A n B m [e0, eA] []) : Calls Try.prog 18 #[.agg #[.slice A 2 n, .slice B 0 m, .int .i64 0, .bool false], .int .i64 1] w fun e w' => e = .returned (.tuple #[.string eA, .int .i64 0]) ∧ Below w.heap.size w w' :=
  read_any A B n m [e0, eA] [] 0 1 eA w h rfl (by decide)
theorem a_read4 (A B : Option Addr) (n m : Nat) (w : World) : Calls Try.prog 18 #[.agg #[.slice A 2 n, .slice B 1 m, .int .i64 0, .bool true], .int .i64 1] w fun e w' => e = .returned (.tuple #[.string e0, .int .i64 6]) ∧ Below w.heap.size w w' :=
  read_stops A B n m [e0, e0] [(1, eA)] 0 1 true w (by decide)
theorem a_flush (A B : Option Addr) (n m : Nat) (w : World) (h : Mem w A n B m [e0, e0] [(1, eA)]) : Calls Try.prog 20 #[.agg #[.slice A 2 n, .slice B 1 m, .int .i64 0, .bool false]] w (GivesD [e0, eA] [] 0 false 0 w) :=
  flush_any A B n m [e0, e0] [(1, eA)] 0 w h (by decide) (by decide) (by decide) (by decide) (by decide)
theorem a_arm (A B : Option Addr) (n m : Nat) (w : World) : Calls Try.prog 22 #[.agg #[.slice A 2 n, .slice B 0 m, .int .i64 0, .bool false], .int .i64 1] w fun e w' => e = .returned (.agg #[.slice A 2 n, .slice B 0 m, .int .i64 1, .bool false]) ∧ Below w.heap.size w w' :=
  arm_any A B 2 n 0 m 0 1 false w
theorem a_dies (A B : Option Addr) (n m : Nat) (w : World) (h : Mem w A n B m [e0, eA] []) : Calls Try.prog 16 #[.agg #[.slice A 2 n, .slice B 0 m, .int .i64 1, .bool false], .int .i64 1, .string eB] w (GivesD [e0, eA] [] 0 true 6 w) :=
  write_dies A B n m [e0, eA] [] 1 1 false eB w h (by decide) (by decide) (by decide) (by decide)
theorem a_range (A B : Option Addr) (n m : Nat) (w : World) (h : Mem w A n B m [e0, e0] []) : Calls Try.prog 16 #[.agg #[.slice A 2 n, .slice B 0 m, .int .i64 0, .bool false], .int .i64 2, .string eB] w (GivesD [e0, e0] [] 0 false 4 w) :=
  write_stops A B n m [e0, e0] [] 0 2 false eB w h (by decide)
theorem a_right (A B : Option Addr) (n m : Nat) (w : World) (h : Mem w A n B m [e0, e0] []) : Calls Try.prog 13 #[.agg #[.slice A 2 n, .slice B 0 m, .int .i64 0, .bool false]] w fun e w' => e = .returned (.bool true) ∧ Below w.heap.size w w' :=
  right_any A B n m [e0, e0] [] 0 false w h.es h.ws (by decide) (by decide)
theorem a_wrong (w : World) : Calls Try.prog 13 #[.agg #[.slice none 0 0, .slice none 0 0, .int .i64 0, .bool false]] w fun e w' => e = .returned (.bool false) ∧ Below w.heap.size w w' :=
  right_any none none 0 0 [] [] 0 false w (es_nil _ _ _ _) (ws_nil _ _ _) (by decide) (by decide)
theorem a_same (A B : Option Addr) (n m : Nat) (w : World) (h : Mem w A n B m [e0, e0] []) : Calls Try.prog 15 #[.agg #[.slice A 2 n, .slice B 0 m, .int .i64 0, .bool false], .agg #[.slice A 2 n, .slice B 0 m, .int .i64 0, .bool false]] w fun e w' => e = .returned (.bool true) ∧ Below w.heap.size w w' :=
  same_any A B A B n m n m [e0, e0] [e0, e0] [] [] 0 0 false false w h.es h.ws h.es h.ws (by decide) (by decide) (by decide) (by decide)
theorem a_other (A B C D : Option Addr) (n m k r : Nat) (w : World) (h : Mem w A n B m [e0, e0] []) (g : Mem w C k D r [e0, e0] [(1, eA)]) : Calls Try.prog 15 #[.agg #[.slice A 2 n, .slice B 0 m, .int .i64 0, .bool false], .agg #[.slice C 2 k, .slice D 1 r, .int .i64 0, .bool false]] w fun e w' => e = .returned (.bool false) ∧ Below w.heap.size w w' :=
  same_any A B C D n m k r [e0, e0] [e0, e0] [] [(1, eA)] 0 0 false false w h.es h.ws g.es g.ws (by decide) (by decide) (by decide) (by decide)

theorem es_true (w : World) : Es Value.bool (w.alloc (.cells #[.bool true] 4)) (w.alloc (.cells #[.bool true] 4)).heap.size (some ⟨w.heap.size, 0, none⟩) [true] := by
  intro j x hj
  match j, hj with
  | 0, hj =>
    simp at hj
    subst hj
    refine ⟨_, rfl, by simp, ?_⟩
    have : (⟨w.heap.size, 0, none⟩ : Addr).add 0 = ⟨w.heap.size, 0, none⟩ := by unfold Addr.add; split <;> simp_all
    rw [this, World.cell?_alloc_mark w _ 4 (0, 0)]
    rfl

/-- A disk in a box of the call's own, as it stays. -/
structure Kept (w : World) (b : Nat) (A : Option Addr) (n : Nat) (B : Option Addr) (m : Nat) (s : List ByteArray) (c : List Wr) (f : Int) (x : Bool) : Prop where
  mem : Mem w A n B m s c
  box : Box w b [.slice A s.length n, .slice B c.length m, .int .i64 f, .bool x]
theorem Kept.up {w w' : World} {b n m : Nat} {A B : Option Addr} {s : List ByteArray} {c : List Wr} {f : Int} {x : Bool} (h : Kept w b A n B m s c f x) (hb : Below w.heap.size w w') : Kept w' b A n B m s c f x := ⟨h.mem.up hb, h.box.below hb⟩
theorem Kept.new {w : World} {n m : Nat} {A B : Option Addr} {s : List ByteArray} {c : List Wr} {f : Int} {x : Bool} (h : Mem w A n B m s c) : Kept (w.alloc (.cells #[.slice A s.length n, .slice B c.length m, .int .i64 f, .bool x] 25)) w.heap.size A n B m s c f x :=
  ⟨h.up below1, Box.new w [.slice A s.length n, .slice B c.length m, .int .i64 f, .bool x] 25⟩

set_option maxRecDepth 100000 in
set_option maxHeartbeats 8000000 in
theorem alive_any (w : World) : Calls Try.prog 8 #[] w fun e w' => e = .returned (.bool true) ∧ Below w.heap.size w w' := by
  go_enter Try.func8, Try.ntmps8
  go_wp2_with fail
  refine (a_new _).mono ?_
  rintro e w1 ⟨A1, B1, n1, m1, rfl, hm1, hb1⟩
  have d1 := Lib.hid (Kept.new (f := 0) (x := false) hm1)
  have h1 := Lib.hid (ext_alloc hb1 (.cells #[.slice A1 2 n1, .slice B1 0 m1, .int .i64 0, .bool false] 25))
  clear hb1 hm1
  go_wp2_with fail
  refine (a_write A1 B1 n1 m1 _ d1.out.mem).mono ?_
  rintro e w2 ⟨A2, B2, n2, m2, rfl, hm2, hb2⟩
  have D2 := Lib.hid ((d1.out.up hb2).up (below1 (o := .cells #[.slice A2 2 n2, .slice B2 1 m2, .int .i64 0, .bool false] 25)))
  have V2 := Lib.hid (Kept.new (f := 0) (x := false) hm2)
  have H2 := Lib.hid (ext_alloc (ext h1.out hb2) (.cells #[.slice A2 2 n2, .slice B2 1 m2, .int .i64 0, .bool false] 25))
  clear hb2 hm2 d1 h1
  go_wp2_with fail
  refine (a_read1 A2 B2 n2 m2 _ V2.out.mem).mono ?_
  rintro e w3 ⟨rfl, hb3⟩
  have D3 := Lib.hid (D2.out.up hb3)
  have V3 := Lib.hid (V2.out.up hb3)
  have H3 := Lib.hid (ext H2.out hb3)
  have k3 := V3.out.box.cell
  clear hb3 D2 V2 H2
  go_wp2_with fail
  refine (crash_any A2 B2 2 n2 1 m2 0 false _).mono ?_
  rintro e w4 ⟨rfl, hb4⟩
  have D4 := Lib.hid (D3.out.up hb4)
  have V4 := Lib.hid (V3.out.up hb4)
  have H4 := Lib.hid (ext H3.out hb4)
  clear hb4 D3 V3 H3 k3
  go_wp2_with fail
  refine (a_lost A2 B2 n2 m2 _ V4.out.mem).mono ?_
  rintro e w5 ⟨A5, B5, n5, m5, rfl, hm5, hb5⟩
  have D5 := Lib.hid (D4.out.up hb5)
  have V5 := Lib.hid (V4.out.up hb5)
  have H5 := Lib.hid (ext H4.out hb5)
  clear hb5 D4 V4 H4
  go_wp2_with fail
  refine (a_read2 A5 B5 n5 m5 _ hm5).mono ?_
  rintro e w6 ⟨rfl, hb6⟩
  have D6 := Lib.hid (D5.out.up hb6)
  have V6 := Lib.hid (V5.out.up hb6)
  have H6 := Lib.hid (ext H5.out hb6)
  have k6 := V6.out.box.cell
  clear hb6 D5 V5 H5 hm5
  go_wp2_with fail
  refine (crash_any A2 B2 2 n2 1 m2 0 false _).mono ?_
  rintro e w7 ⟨rfl, hb7⟩
  have D7 := Lib.hid ((D6.out.up hb7).up (below1 (o := .cells #[.bool true] 4)))
  have V7 := Lib.hid ((V6.out.up hb7).up (below1 (o := .cells #[.bool true] 4)))
  have H7 := Lib.hid (ext_alloc (ext H6.out hb7) (.cells #[.bool true] 4))
  clear hb7 D6 V6 H6 k6
  go_wp2_with fail
  refine (a_kept A2 B2 n2 m2 _ _ V7.out.mem (es_true w7)).mono ?_
  rintro e w8 ⟨A8, B8, n8, m8, rfl, hm8, hb8⟩
  have D8 := Lib.hid (D7.out.up hb8)
  have V8 := Lib.hid (V7.out.up hb8)
  have H8 := Lib.hid (ext H7.out hb8)
  clear hb8 D7 V7 H7
  go_wp2_with fail
  refine (a_read3 A8 B8 n8 m8 _ hm8).mono ?_
  rintro e w9 ⟨rfl, hb9⟩
  have D9 := Lib.hid (D8.out.up hb9)
  have V9 := Lib.hid (V8.out.up hb9)
  have H9 := Lib.hid (ext H8.out hb9)
  have k9 := V9.out.box.cell
  clear hb9 D8 V8 H8 hm8
  go_wp2_with fail
  refine (crash_any A2 B2 2 n2 1 m2 0 false _).mono ?_
  rintro e w10 ⟨rfl, hb10⟩
  have D10 := Lib.hid (D9.out.up hb10)
  have V10 := Lib.hid (V9.out.up hb10)
  have H10 := Lib.hid (ext H9.out hb10)
  clear hb10 D9 V9 H9 k9
  go_wp2_with fail
  refine (a_read4 A2 B2 n2 m2 _).mono ?_
  rintro e w11 ⟨rfl, hb11⟩
  have D11 := Lib.hid (D10.out.up hb11)
  have V11 := Lib.hid (V10.out.up hb11)
  have H11 := Lib.hid (ext H10.out hb11)
  have k11 := V11.out.box.cell
  clear hb11 D10 V10 H10
  go_wp2_with fail
  refine (a_flush A2 B2 n2 m2 _ V11.out.mem).mono ?_
  rintro e w12 ⟨A12, B12, n12, m12, rfl, hm12, hb12⟩
  have D12 := Lib.hid ((D11.out.up hb12).up (below1 (o := .cells #[.slice A12 2 n12, .slice B12 0 m12, .int .i64 0, .bool false] 25)))
  have V12 := Lib.hid ((V11.out.up hb12).up (below1 (o := .cells #[.slice A12 2 n12, .slice B12 0 m12, .int .i64 0, .bool false] 25)))
  have U12 := Lib.hid (Kept.new (f := 0) (x := false) hm12)
  have H12 := Lib.hid (ext_alloc (ext H11.out hb12) (.cells #[.slice A12 2 n12, .slice B12 0 m12, .int .i64 0, .bool false] 25))
  clear hb12 hm12 D11 V11 H11 k11
  go_wp2_with fail
  refine (a_arm A12 B12 n12 m12 _).mono ?_
  rintro e w13 ⟨rfl, hb13⟩
  have D13 := Lib.hid (D12.out.up hb13)
  have V13 := Lib.hid (V12.out.up hb13)
  have U13 := Lib.hid (U12.out.up hb13)
  have H13 := Lib.hid (ext H12.out hb13)
  clear hb13 D12 V12 U12 H12
  go_wp2_with fail
  refine (a_dies A12 B12 n12 m12 _ U13.out.mem).mono ?_
  rintro e w14 ⟨A14, B14, n14, m14, rfl, hm14, hb14⟩
  have D14 := Lib.hid ((D13.out.up hb14).up (below1 (o := .cells #[.slice A14 2 n14, .slice B14 0 m14, .int .i64 0, .bool true] 25)))
  have V14 := Lib.hid ((V13.out.up hb14).up (below1 (o := .cells #[.slice A14 2 n14, .slice B14 0 m14, .int .i64 0, .bool true] 25)))
  have U14 := Lib.hid ((U13.out.up hb14).up (below1 (o := .cells #[.slice A14 2 n14, .slice B14 0 m14, .int .i64 0, .bool true] 25)))
  have X14 := Lib.hid (Kept.new (f := 0) (x := true) hm14)
  have H14 := Lib.hid (ext_alloc (ext H13.out hb14) (.cells #[.slice A14 2 n14, .slice B14 0 m14, .int .i64 0, .bool true] 25))
  have k14 := D14.out.box.cell
  clear hb14 hm14 D13 V13 U13 H13
  go_wp2_with fail
  refine (a_range A1 B1 n1 m1 _ D14.out.mem).mono ?_
  rintro e w15 ⟨A15, B15, n15, m15, rfl, hm15, hb15⟩
  have D15 := Lib.hid ((D14.out.up hb15).up (below1 (o := .cells #[.slice A15 2 n15, .slice B15 0 m15, .int .i64 0, .bool false] 25)))
  have V15 := Lib.hid ((V14.out.up hb15).up (below1 (o := .cells #[.slice A15 2 n15, .slice B15 0 m15, .int .i64 0, .bool false] 25)))
  have u15 := (U14.out.up hb15).up (below1 (o := .cells #[.slice A15 2 n15, .slice B15 0 m15, .int .i64 0, .bool false] 25))
  have x15 := (X14.out.up hb15).up (below1 (o := .cells #[.slice A15 2 n15, .slice B15 0 m15, .int .i64 0, .bool false] 25))
  have H15 := Lib.hid (ext_alloc (ext H14.out hb15) (.cells #[.slice A15 2 n15, .slice B15 0 m15, .int .i64 0, .bool false] 25))
  have k15 := D15.out.box.cell
  have j15 := u15.box.cell
  have i15 := x15.box.cell
  obtain ⟨a12, rfl, _, hc12⟩ := u15.mem.es 1 eA rfl
  rw [show a12.add 1 = ⟨a12.block, a12.off + 1, none⟩ from rfl] at hc12
  clear hb15 hm15 D14 V14 U14 X14 H14 k14 u15 x15
  go_wp2_with fail
  refine (a_right A1 B1 n1 m1 _ D15.out.mem).mono ?_
  rintro e w16 ⟨rfl, hb16⟩
  have D16 := Lib.hid (D15.out.up hb16)
  have V16 := Lib.hid (V15.out.up hb16)
  have H16 := Lib.hid (ext H15.out hb16)
  clear hb16 D15 V15 H15 k15 j15 i15 hc12
  go_wp2_with fail
  refine (a_wrong _).mono ?_
  rintro e w17 ⟨rfl, hb17⟩
  have D17 := Lib.hid (D16.out.up hb17)
  have V17 := Lib.hid (V16.out.up hb17)
  have H17 := Lib.hid (ext H16.out hb17)
  have k17 := D17.out.box.cell
  clear hb17 D16 V16 H16
  go_wp2_with fail
  refine (a_same A1 B1 n1 m1 _ D17.out.mem).mono ?_
  rintro e w18 ⟨rfl, hb18⟩
  have D18 := Lib.hid (D17.out.up hb18)
  have V18 := Lib.hid (V17.out.up hb18)
  have H18 := Lib.hid (ext H17.out hb18)
  have k18 := D18.out.box.cell
  have j18 := V18.out.box.cell
  clear hb18 D17 V17 H17 k17
  go_wp2_with fail
  refine (a_other A1 B1 A2 B2 n1 m1 n2 m2 _ D18.out.mem V18.out.mem).mono ?_
  rintro e w19 ⟨rfl, hb19⟩
  have H19 := Lib.hid (ext H18.out hb19)
  clear hb19 D18 V18 H18 k18 j18
  go_wp2_with fail
  go_ret
  exact ⟨rfl, H19.out⟩
end Go.Proofs.Ytifcmpcgpcbljaa
