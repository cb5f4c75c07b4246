/- How a list of mints and a mint that come in are opened: each reads as numbers. No condition. -/
import Derived.Test.YtpipindifeklbaaLA
import Derived.OpenShut
import Derived.ProofKit
import Derived.Deep.Slices
import Derived.ChangeSame
import Derived.Lib.SmallJoins
namespace Go.Proofs.Ytpipindifeklbaa
open Go.ChangeShapes Go.WideShapes Go.ChangeAt Go.RowKit

set_option maxRecDepth 100000

section
variable {H : Type} {enc : TypeId × Value → H} {W : World} {r : Reach} {base : Nat}

theorem open_mu {fuel : Nat} {cs : List Value} {x : DataW H × List MemPlace} (h : DataW.trod enc Try.prog W 0 (fun _ => true) true fuel 23 cs = some x) : ∃ c : Int, cs = [.int .u64 c] ∧ U64 c := by
  obtain ⟨c, rfl, _, wc⟩ := DataW.trod_int (k := .u64) Try.underlying23 h
  exact ⟨c, rfl, wc⟩
theorem open_mi {fuel : Nat} {cs : List Value} {x : DataW H × List MemPlace} (h : DataW.trod enc Try.prog W 0 (fun _ => true) true fuel 3 cs = some x) : ∃ c : Int, cs = [.int .i64 c] := by
  obtain ⟨c, rfl, _, wc⟩ := DataW.trod_int (k := .i64) Try.underlying3 h
  exact ⟨c, rfl⟩

theorem mcells1 : Try.prog.cellsOf 23 = 1 := by kernel_rfl
theorem mcells2 : Try.prog.cellsOf 3 = 1 := by kernel_rfl
theorem mcells3 : Try.prog.cellsOf 32 = 3 := by kernel_rfl

theorem open_mntL {fuel : Nat} {cs : List Value} {x : DataW H × List MemPlace} (h : DataW.trod enc Try.prog W 0 (fun _ => true) true fuel 32 cs = some x) :
    ∃ m : Mnt, cs = [.int .u64 m.g, .int .u64 m.p, .int .i64 m.k] ∧ U64 m.g ∧ U64 m.p := by
  obtain ⟨xs, n, _, _, hlen, hl, hel⟩ := DataW.trod_struct Try.underlying32 h
  rw [mcells3] at hlen
  match xs, hl, cs, hlen with
  | [x0, x1, x2], _, [c0, c1, c2], _ =>
    have h0 : DataW.trod enc Try.prog W 0 (fun _ => true) true n 23 (List.take (Try.prog.cellsOf 23) [c0, c1, c2]) = some x0 := hel 0 _ rfl
    have h1 : DataW.trod enc Try.prog W 0 (fun _ => true) true n 23 (List.take (Try.prog.cellsOf 23) [c1, c2]) = some x1 := hel 1 _ rfl
    have h2 : DataW.trod enc Try.prog W 0 (fun _ => true) true n 3 (List.take (Try.prog.cellsOf 3) [c2]) = some x2 := hel 2 _ rfl
    rw [mcells1] at h0 h1
    rw [mcells2] at h2
    obtain ⟨a, e0, b0⟩ := open_mu (x := x0) (by simpa using h0)
    obtain ⟨b, e1, b1⟩ := open_mu (x := x1) (by simpa using h1)
    obtain ⟨c, e2⟩ := open_mi (x := x2) (by simpa using h2)
    simp at e0 e1 e2
    subst e0; subst e1; subst e2
    exact ⟨⟨a, b, c⟩, rfl, b0, b1⟩

theorem open_mnt {v : Value} {d : DataW H} {ps : List MemPlace} (hval : Value.okWide Try.prog W r base 32 v) (h : DataW.Trod enc Try.prog W 0 (fun _ => true) true 32 v d ps) :
    ∃ m : Mnt, v = .agg #[.int .u64 m.g, .int .u64 m.p, .int .i64 m.k] ∧ U64 m.g ∧ U64 m.p := by
  obtain ⟨cs, rfl, _⟩ := okWide_struct Try.underlying32 hval
  obtain ⟨fuel, hf⟩ := h
  obtain ⟨m, e, hb⟩ := open_mntL hf
  obtain ⟨l⟩ := cs
  have e : l = [.int .u64 m.g, .int .u64 m.p, .int .i64 m.k] := by simpa [Value.cells] using e
  subst e
  exact ⟨m, rfl, hb⟩

instance : Inhabited Mnt := ⟨⟨0, 0, 0⟩⟩

theorem open_mnts {v : Value} {d : DataW H} {ps : List MemPlace} (hval : Value.okWide Try.prog W r base 22 v) (h : DataW.Trod enc Try.prog W 0 (fun _ => true) true 22 v d ps) :
    ∃ A c l, v = .slice A (l : List Mnt).length c ∧ (A = none → c = 0) ∧ Ms W W.heap.size A l ∧ Wide l := by
  obtain ⟨a0, len, cap, rfl⟩ := okWide_slice Try.underlying22 hval
  obtain ⟨fuel, hf⟩ := h
  rcases Go.Deep.open_slice Try.underlying22 hf with ⟨hcs, hx⟩ | ⟨a, len', cap', m, n, D, Pl, hcs, _, hl, _, hm, _, hc⟩
  · have e : (.slice a0 len cap : Value) = .slice none 0 0 := by simpa [Value.cells] using hcs
    injection e with e1 e2 e3
    subst e1; subst e2; subst e3
    exact ⟨none, 0, [], rfl, fun _ => rfl, ms_nil _ _ _, by intro m hm; cases hm⟩
  · have e : (.slice a0 len cap : Value) = .slice (some a) len' cap' := by simpa [Value.cells] using hcs
    injection e with e1 e2 e3
    subst e1; subst e2; subst e3
    have hm' : m = cap := by simpa using hm
    subst hm'
    have each : ∀ i, i < m → ∃ q : Mnt, W.cell? (a.add (i * 3)) = some (.int .u64 q.g) ∧ W.cell? ((a.add (i * 3)).add 1) = some (.int .u64 q.p) ∧ W.cell? ((a.add (i * 3)).add 2) = some (.int .i64 q.k) ∧ U64 q.g ∧ U64 q.p := by
      intro i hi
      obtain ⟨cs', h1, h2⟩ := hc i hi
      rw [mcells3] at h1
      obtain ⟨_, hlen, hcell⟩ := World.cells?_some h1
      obtain ⟨q, rfl, w1, w2⟩ := open_mntL h2
      have z0 := hcell 0 (by omega)
      have e0 : (a.add (i * 3)).add 0 = a.add (i * 3) := by rw [Go.Deep.add_add, Nat.add_zero]
      rw [e0] at z0
      exact ⟨q, by simpa using z0, by simpa using hcell 1 (by omega), by simpa using hcell 2 (by omega), w1, w2⟩
    obtain ⟨Q, hQ⟩ := Go.Deep.choose_lt (α := Mnt) each
    refine ⟨some a, m, (List.range len).map Q, by simp, (fun q => by cases q), ?_, ?_⟩
    · intro j t hj
      simp only [List.getElem?_map, Option.map_eq_some_iff] at hj
      obtain ⟨i, hi, rfl⟩ := hj
      obtain ⟨hil, rfl⟩ := List.getElem?_eq_some_iff.1 hi
      simp only [List.length_range] at hil
      simp only [List.getElem_range]
      have hq := hQ j (by omega)
      have hb := World.block_lt_of_cell? W (a.add (j * 3)) hq.1
      rw [add_block] at hb
      have off : ∀ k, (⟨(a.add (j * 3)).block, (a.add (j * 3)).off + (k + 1), none⟩ : Addr) = (a.add (j * 3)).add (k + 1) := by
        intro k
        conv => rhs; unfold Addr.add
        rw [if_neg (by omega)]
        rfl
      refine ⟨a, rfl, hb, hq.1, ?_, ?_⟩
      · rw [off 0]; exact hq.2.1
      · rw [off 1]; exact hq.2.2.1
    · intro t ht
      obtain ⟨i, hi, rfl⟩ := List.mem_map.1 ht
      have := hQ i (by have := List.mem_range.1 hi; omega)
      exact this.2.2.2
end
end Go.Proofs.Ytpipindifeklbaa
