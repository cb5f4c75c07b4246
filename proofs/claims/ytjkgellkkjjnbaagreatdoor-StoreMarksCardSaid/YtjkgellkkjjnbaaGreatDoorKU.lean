/- Superblocks out of bytes: what a row of bytes is, and what parse answers, for every text of up to 3000 bytes. Under: both package variables as they are laid. -/
import Derived.Test.YtjkgellkkjjnbaaGreatDoorKS
import Derived.Test.YtjkgellkkjjnbaaGreatDoorKB
import Derived.Test.YtjkgellkkjjnbaaGreatDoorKT
namespace Go.Proofs.YtjkgellkkjjnbaaGreatDoor
open Go.RowKit

/-- What a row of bytes tells, field by field. -/
def supOf (l : List UInt8) : Sup :=
  ⟨((l.getD 3 0).toNat : Int), num8 l 5, num8 l 13, num8 l 21, num8 l 29, decide ((l.getD 4 0).toNat % 2 = 1), decide ((l.getD 4 0).toNat / 2 % 2 = 1), decide ((l.getD 4 0).toNat / 2 / 2 % 2 = 1)⟩

/-- Are they the bytes of a superblock that may be? -/
def formed (l : List UInt8) : Bool := decide (l.length = 37) && decide (l.take 3 = [71, 77, 1]) && decide ((l.getD 4 0).toNat < 8) && (supOf l).right

def Sup.zero : Sup := ⟨0, 0, 0, 0, 0, false, false, false⟩

/-- What bytes are, and their number. -/
def dec (s : ByteArray) : Sup × Int := if openE s = 0 then (if formed (openT s).data.toList then (supOf (openT s).data.toList, 0) else (Sup.zero, 2)) else (Sup.zero, openE s)

theorem text_head : (⟨#[71, 77, 1]⟩ : ByteArray).toList = [71, 77, 1] := by rw [ByteArray.toList_eq]

theorem unfl3 (x : Nat) : unfl 3 x = [decide (x % 2 = 1), decide (x / 2 % 2 = 1), decide (x / 2 / 2 % 2 = 1)] := rfl

end Go.Proofs.YtjkgellkkjjnbaaGreatDoor

/- What parse answers to bytes that are no superblock's, part by part. Under: both package variables as they are laid. -/

namespace Go.Proofs.YtjkgellkkjjnbaaGreatDoor
open Go.RowKit

section
variable (s t : ByteArray) (x : Int) (a : Addr) (w : World)

set_option maxHeartbeats 1000000 in
theorem parse_seal (ho : ∀ w, Calls Tryz.prog 57 #[.string s] w fun e w' => e = .returned (.tuple #[.string t, .int .i64 x]) ∧ Below w.heap.size w w') (hx : x ≠ 0) :
    Calls Tryz.prog 91 #[.string s] w fun e w' => ∃ v, e = .returned (.tuple #[supV Sup.zero, v]) ∧ ErrOf a v x ∧ Below w.heap.size w w' := by
  have hx' : (x != 0) = true := bne_iff_ne.2 hx
  have HO := Lib.hid ho; clear ho
  have H0 := Lib.hid ((Held.refl w).own (supC Sup.zero) 31 (n := 8) rfl)
  go_enter Tryz.func91, Tryz.ntmps91
  go_wp2_with fail
  refine (HO.out _).mono ?_
  rintro e w1 ⟨rfl, hb⟩
  have H1 := Lib.hid (H0.out.up hb)
  clear hb H0
  obtain ⟨u0, u1, u2, u3, u4, u5, u6, u7, hx⟩ := H1.out.o0.eight
  have k := hx.cell
  have f := hx.frozen
  have HX := Lib.hid hx; clear hx
  go_wp2_with fail
  have hz := HX.out.eight (.int .i64 0) (.int .u64 0) (.int .u64 0) (.int .u64 0) (.int .u64 0) (.bool false) (.bool false) (.bool false)
  have H9 : Held w [] [(w.heap.size, 8)] ((((((((w1.setCell ⟨w.heap.size, 0, none⟩ (.int .i64 0)).setCell ⟨w.heap.size, 1, none⟩ (.int .u64 0)).setCell ⟨w.heap.size, 2, none⟩ (.int .u64 0)).setCell ⟨w.heap.size, 3, none⟩ (.int .u64 0)).setCell ⟨w.heap.size, 4, none⟩ (.int .u64 0)).setCell ⟨w.heap.size, 5, none⟩ (.bool false)).setCell ⟨w.heap.size, 6, none⟩ (.bool false)).setCell ⟨w.heap.size, 7, none⟩ (.bool false)) := H1.out.set8 ⟨8, by simp⟩ (.int .i64 0) (.int .u64 0) (.int .u64 0) (.int .u64 0) (.int .u64 0) (.bool false) (.bool false) (.bool false)
  generalize ((((((((w1.setCell ⟨w.heap.size, 0, none⟩ (.int .i64 0)).setCell ⟨w.heap.size, 1, none⟩ (.int .u64 0)).setCell ⟨w.heap.size, 2, none⟩ (.int .u64 0)).setCell ⟨w.heap.size, 3, none⟩ (.int .u64 0)).setCell ⟨w.heap.size, 4, none⟩ (.int .u64 0)).setCell ⟨w.heap.size, 5, none⟩ (.bool false)).setCell ⟨w.heap.size, 6, none⟩ (.bool false)).setCell ⟨w.heap.size, 7, none⟩ (.bool false)) = w9 at *
  have kz := hz.cell
  refine bodyPost_ret (v := .tuple #[.agg #[.int .i64 0, .int .u64 0, .int .u64 0, .int .u64 0, .int .u64 0, .bool false, .bool false, .bool false], .iface 137 (.agg #[.string ⟨#[115, 101, 97, 108]⟩, .iface 37 (.int .i64 x)])]) (by simp [results, Tryz.results91, go_sem, kz]) rfl ⟨_, rfl, .inr (.inr ⟨_, rfl⟩), H9.below⟩

set_option maxRecDepth 100000 in
set_option maxHeartbeats 2000000 in
theorem parse_len (hg : Glob w a) (ho : ∀ w, Calls Tryz.prog 57 #[.string s] w fun e w' => e = .returned (.tuple #[.string t, .int .i64 0]) ∧ Below w.heap.size w w') (hl : t.size ≠ 37) :
    Calls Tryz.prog 91 #[.string s] w fun e w' => ∃ v, e = .returned (.tuple #[supV Sup.zero, v]) ∧ ErrOf a v 2 ∧ Below w.heap.size w w' := by
  have hl' : ((t.size : Int) != 37) = true := by rw [bne_iff_ne]; omega
  clear hl
  have HO := Lib.hid ho; clear ho
  have HG := Lib.hid hg; clear hg
  have H0 := Lib.hid ((Held.refl w).own (supC Sup.zero) 31 (n := 8) rfl)
  go_enter Tryz.func91, Tryz.ntmps91
  go_wp2_with fail
  refine (HO.out _).mono ?_
  rintro e w1 ⟨rfl, hb⟩
  have H1 := Lib.hid (H0.out.up hb)
  clear hb H0
  go_wp2_with fail
  refine held_begin (by kernel_rfl) H1.out (fun v0 hH0 => ?_)
  refine wpAnyH_take (i := 0) (v := ?_) rfl (by kernel_rfl) (by kernel_rfl) (by kernel_rfl) (fun _ _ _ h => h) (Or.inl ⟨by rfl, ?_⟩) hH0 ?_
  rotate_left
  · (intro v hSw; go_simp; try with_reducible rfl)
  simp only [Act.put, List.setIfInBounds_toArray, List.set_cons_zero, List.set_cons_succ, List.getElem_toArray, List.getElem_cons_zero]
  refine wpAnyH_take (i := 1) (v := ?_) rfl (by kernel_rfl) (by kernel_rfl) (by kernel_rfl) (fun _ _ _ h => h) (Or.inl ⟨by rfl, ?_⟩) hH0 ?_
  rotate_left
  · (intro v hSw; have k := (HG.out.up hSw.below).e0; go_simp; try with_reducible rfl)
  simp only [Act.put, List.setIfInBounds_toArray, List.set_cons_zero, List.set_cons_succ, List.getElem_toArray, List.getElem_cons_zero, List.getElem_cons_succ]
  refine wpAnyH_take (i := 2) (v := ?_) rfl (by kernel_rfl) (by kernel_rfl) (by kernel_rfl) (fun _ _ _ h => h) (Or.inl ⟨by rfl, ?_⟩) hH0 ?_
  rotate_left
  · (intro v hSw; go_simp; try with_reducible rfl)
  simp only [Act.put, List.setIfInBounds_toArray, List.set_cons_zero, List.set_cons_succ, List.getElem_toArray, List.getElem_cons_zero, List.getElem_cons_succ]
  refine wpAnyH_take (i := 3) (v := ?_) rfl (by kernel_rfl) (by kernel_rfl) (by kernel_rfl) (fun _ _ _ h => h) (Or.inl ⟨by rfl, ?_⟩) hH0 ?_
  rotate_left
  · (intro v hSw; go_simp; try with_reducible rfl)
  simp only [Act.put, List.setIfInBounds_toArray, List.set_cons_zero, List.set_cons_succ, List.getElem_toArray, List.getElem_cons_zero, List.getElem_cons_succ]
  refine wpAnyH_ready (rs := [4]) (by kernel_rfl) (by simp) ?_
  refine AllReadyH.cons rfl (fun K hK => ?_) AllReadyH.nil
  obtain ⟨u0, u1, u2, u3, u4, u5, u6, u7, hx⟩ := hH0.o0.eight
  have kx := hx.cell
  have fx := hx.frozen
  go_simp
  refine hK.out _ _ (hH0.set8 ⟨8, by simp⟩ _ _ _ _ _ _ _ _) (fun hX => ?_)
  refine stored8 hH0 ⟨8, by simp⟩ hx (fun v1 hH1 hy => ?_)
  clear hK K hX hH0 hx kx fx
  refine wpAnyH_take (i := 5) (v := ?_) rfl (by kernel_rfl) (by kernel_rfl) (by kernel_rfl) (fun _ _ _ h => h) (Or.inl ⟨by rfl, ?_⟩) hH1 ?_
  rotate_left
  · (intro v hSw; go_simp; try with_reducible rfl)
  simp only [Act.put, List.setIfInBounds_toArray, List.set_cons_zero, List.set_cons_succ, List.getElem_toArray, List.getElem_cons_zero, List.getElem_cons_succ]
  refine wpAnyH_done (by kernel_rfl) ?_ _
  have kz := hy.cell
  go_wp2_with fail
  refine bodyPost_ret (v := .tuple #[.agg #[.int .i64 0, .int .u64 0, .int .u64 0, .int .u64 0, .int .u64 0, .bool false, .bool false, .bool false], .iface 137 (.agg #[.string ⟨#[108, 101, 110, 103, 116, 104]⟩, .iface 179 (.pointer (some a))])]) (by simp [results, Tryz.results91, go_sem, kz]) rfl ⟨_, rfl, .inr (.inl ⟨_, rfl, rfl⟩), hH1.below⟩

set_option maxRecDepth 100000 in
set_option maxHeartbeats 2000000 in
theorem parse_head (hg : Glob w a) (ho : ∀ w, Calls Tryz.prog 57 #[.string s] w fun e w' => e = .returned (.tuple #[.string t, .int .i64 0]) ∧ Below w.heap.size w w') (hl : (t.size : Int) = 37) (hh : t.extract 0 3 ≠ ⟨#[71, 77, 1]⟩) :
    Calls Tryz.prog 91 #[.string s] w fun e w' => ∃ v, e = .returned (.tuple #[supV Sup.zero, v]) ∧ ErrOf a v 2 ∧ Below w.heap.size w w' := by
  have hh' := text_ne hh
  rw [text_head] at hh'
  clear hh
  have HO := Lib.hid ho; clear ho
  have HG := Lib.hid hg; clear hg
  have H0 := Lib.hid ((Held.refl w).own (supC Sup.zero) 31 (n := 8) rfl)
  go_enter Tryz.func91, Tryz.ntmps91
  go_wp2_with fail
  refine (HO.out _).mono ?_
  rintro e w1 ⟨rfl, hb⟩
  have H1 := Lib.hid (H0.out.up hb)
  clear hb H0
  go_wp2_with fail
  refine held_begin (by kernel_rfl) H1.out (fun v0 hH0 => ?_)
  refine wpAnyH_take (i := 0) (v := ?_) rfl (by kernel_rfl) (by kernel_rfl) (by kernel_rfl) (fun _ _ _ h => h) (Or.inl ⟨by rfl, ?_⟩) hH0 ?_
  rotate_left
  · (intro v hSw; go_simp; try with_reducible rfl)
  simp only [Act.put, List.setIfInBounds_toArray, List.set_cons_zero, List.set_cons_succ, List.getElem_toArray, List.getElem_cons_zero]
  refine wpAnyH_take (i := 1) (v := ?_) rfl (by kernel_rfl) (by kernel_rfl) (by kernel_rfl) (fun _ _ _ h => h) (Or.inl ⟨by rfl, ?_⟩) hH0 ?_
  rotate_left
  · (intro v hSw; have k := (HG.out.up hSw.below).e0; go_simp; try with_reducible rfl)
  simp only [Act.put, List.setIfInBounds_toArray, List.set_cons_zero, List.set_cons_succ, List.getElem_toArray, List.getElem_cons_zero, List.getElem_cons_succ]
  refine wpAnyH_take (i := 2) (v := ?_) rfl (by kernel_rfl) (by kernel_rfl) (by kernel_rfl) (fun _ _ _ h => h) (Or.inl ⟨by rfl, ?_⟩) hH0 ?_
  rotate_left
  · (intro v hSw; go_simp; try with_reducible rfl)
  simp only [Act.put, List.setIfInBounds_toArray, List.set_cons_zero, List.set_cons_succ, List.getElem_toArray, List.getElem_cons_zero, List.getElem_cons_succ]
  refine wpAnyH_take (i := 3) (v := ?_) rfl (by kernel_rfl) (by kernel_rfl) (by kernel_rfl) (fun _ _ _ h => h) (Or.inl ⟨by rfl, ?_⟩) hH0 ?_
  rotate_left
  · (intro v hSw; go_simp; try with_reducible rfl)
  simp only [Act.put, List.setIfInBounds_toArray, List.set_cons_zero, List.set_cons_succ, List.getElem_toArray, List.getElem_cons_zero, List.getElem_cons_succ]
  refine wpAnyH_ready (rs := [4]) (by kernel_rfl) (by simp) ?_
  refine AllReadyH.cons rfl (fun K hK => ?_) AllReadyH.nil
  obtain ⟨u0, u1, u2, u3, u4, u5, u6, u7, hx⟩ := hH0.o0.eight
  have kx := hx.cell
  have fx := hx.frozen
  go_simp
  refine hK.out _ _ (hH0.set8 ⟨8, by simp⟩ _ _ _ _ _ _ _ _) (fun hX => ?_)
  refine stored8 hH0 ⟨8, by simp⟩ hx (fun v1 hH1 hy => ?_)
  clear hK K hX hH0 hx kx fx
  refine wpAnyH_take (i := 5) (v := ?_) rfl (by kernel_rfl) (by kernel_rfl) (by kernel_rfl) (fun _ _ _ h => h) (Or.inl ⟨by rfl, ?_⟩) hH1 ?_
  rotate_left
  · (intro v hSw; go_simp; try with_reducible rfl)
  simp only [Act.put, List.setIfInBounds_toArray, List.set_cons_zero, List.set_cons_succ, List.getElem_toArray, List.getElem_cons_zero, List.getElem_cons_succ]
  refine wpAnyH_done (by kernel_rfl) ?_ _
  have kz := hy.cell
  go_wp2_with fail
  refine bodyPost_ret (v := .tuple #[.agg #[.int .i64 0, .int .u64 0, .int .u64 0, .int .u64 0, .int .u64 0, .bool false, .bool false, .bool false], .iface 137 (.agg #[.string ⟨#[104, 101, 97, 100]⟩, .iface 179 (.pointer (some a))])]) (by simp [results, Tryz.results91, go_sem, kz]) rfl ⟨_, rfl, .inr (.inl ⟨_, rfl, rfl⟩), hH1.below⟩


end

end Go.Proofs.YtjkgellkkjjnbaaGreatDoor

/- What parse answers where the flags are wrong. Under: both package variables as they are laid. -/

namespace Go.Proofs.YtjkgellkkjjnbaaGreatDoor
open Go.RowKit

section
variable (s t : ByteArray) (x : Int) (a : Addr) (w : World)

set_option maxRecDepth 100000 in
set_option maxHeartbeats 2000000 in
theorem parse_flags (hg : Glob w a) (ho : ∀ w, Calls Tryz.prog 57 #[.string s] w fun e w' => e = .returned (.tuple #[.string t, .int .i64 0]) ∧ Below w.heap.size w w') (hl : (t.size : Int) = 37) (hh : t.extract 0 3 = ⟨#[71, 77, 1]⟩) (h8 : 8 ≤ (t[4]'(by omega)).toNat) :
    Calls Tryz.prog 91 #[.string s] w fun e w' => ∃ v, e = .returned (.tuple #[supV Sup.zero, v]) ∧ ErrOf a v 2 ∧ Below w.heap.size w w' := by
  have hh' : ((t.extract 0 3).toList == [71, 77, 1]) = true := by rw [hh, text_head, beq_self_eq_true]
  clear hh
  have hun := fun w => unflag_more (t[4].toNat : Int) 3 w (by omega) (byte_lt _) (by decide) (by simpa using h8)
  have HU := Lib.hid hun; clear hun h8
  have HO := Lib.hid ho; clear ho
  have HG := Lib.hid hg; clear hg
  have H0 := Lib.hid ((Held.refl w).own (supC Sup.zero) 31 (n := 8) rfl)
  go_enter Tryz.func91, Tryz.ntmps91
  go_wp2_with fail
  refine (HO.out _).mono ?_
  rintro e w1 ⟨rfl, hb⟩
  have H1 := Lib.hid (H0.out.up hb)
  clear hb H0
  go_wp2_with fail
  refine (HU.out _).mono ?_
  rintro e w2 ⟨rfl, rfl⟩
  go_wp2_with fail
  refine held_begin (by kernel_rfl) H1.out (fun v0 hH0 => ?_)
  refine wpAnyH_take (i := 0) (v := ?_) rfl (by kernel_rfl) (by kernel_rfl) (by kernel_rfl) (fun _ _ _ h => h) (Or.inl ⟨by rfl, ?_⟩) hH0 ?_
  rotate_left
  · (intro v hSw; go_simp; try with_reducible rfl)
  simp only [Act.put, List.setIfInBounds_toArray, List.set_cons_zero, List.set_cons_succ, List.getElem_toArray, List.getElem_cons_zero]
  refine wpAnyH_take (i := 1) (v := ?_) rfl (by kernel_rfl) (by kernel_rfl) (by kernel_rfl) (fun _ _ _ h => h) (Or.inl ⟨by rfl, ?_⟩) hH0 ?_
  rotate_left
  · (intro v hSw; have k := (HG.out.up hSw.below).e0; go_simp; try with_reducible rfl)
  simp only [Act.put, List.setIfInBounds_toArray, List.set_cons_zero, List.set_cons_succ, List.getElem_toArray, List.getElem_cons_zero, List.getElem_cons_succ]
  refine wpAnyH_take (i := 2) (v := ?_) rfl (by kernel_rfl) (by kernel_rfl) (by kernel_rfl) (fun _ _ _ h => h) (Or.inl ⟨by rfl, ?_⟩) hH0 ?_
  rotate_left
  · (intro v hSw; go_simp; try with_reducible rfl)
  simp only [Act.put, List.setIfInBounds_toArray, List.set_cons_zero, List.set_cons_succ, List.getElem_toArray, List.getElem_cons_zero, List.getElem_cons_succ]
  refine wpAnyH_take (i := 3) (v := ?_) rfl (by kernel_rfl) (by kernel_rfl) (by kernel_rfl) (fun _ _ _ h => h) (Or.inl ⟨by rfl, ?_⟩) hH0 ?_
  rotate_left
  · (intro v hSw; go_simp; try with_reducible rfl)
  simp only [Act.put, List.setIfInBounds_toArray, List.set_cons_zero, List.set_cons_succ, List.getElem_toArray, List.getElem_cons_zero, List.getElem_cons_succ]
  refine wpAnyH_ready (rs := [4]) (by kernel_rfl) (by simp) ?_
  refine AllReadyH.cons rfl (fun K hK => ?_) AllReadyH.nil
  obtain ⟨u0, u1, u2, u3, u4, u5, u6, u7, hx⟩ := hH0.o0.eight
  have kx := hx.cell
  have fx := hx.frozen
  go_simp
  refine hK.out _ _ (hH0.set8 ⟨8, by simp⟩ _ _ _ _ _ _ _ _) (fun hX => ?_)
  refine stored8 hH0 ⟨8, by simp⟩ hx (fun v1 hH1 hy => ?_)
  clear hK K hX hH0 hx kx fx
  refine wpAnyH_take (i := 5) (v := ?_) rfl (by kernel_rfl) (by kernel_rfl) (by kernel_rfl) (fun _ _ _ h => h) (Or.inl ⟨by rfl, ?_⟩) hH1 ?_
  rotate_left
  · (intro v hSw; go_simp; try with_reducible rfl)
  simp only [Act.put, List.setIfInBounds_toArray, List.set_cons_zero, List.set_cons_succ, List.getElem_toArray, List.getElem_cons_zero, List.getElem_cons_succ]
  refine wpAnyH_done (by kernel_rfl) ?_ _
  have kz := hy.cell
  go_wp2_with fail
  refine bodyPost_ret (v := .tuple #[.agg #[.int .i64 0, .int .u64 0, .int .u64 0, .int .u64 0, .int .u64 0, .bool false, .bool false, .bool false], .iface 137 (.agg #[.string ⟨#[102, 108, 97, 103, 115]⟩, .iface 179 (.pointer (some a))])]) (by simp [results, Tryz.results91, go_sem, kz]) rfl ⟨_, rfl, .inr (.inl ⟨_, rfl, rfl⟩), hH1.below⟩

end

end Go.Proofs.YtjkgellkkjjnbaaGreatDoor
