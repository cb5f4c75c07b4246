/- A row of commits, layer 7: MetaWhole where little is looked at: too many superblocks, or none, or too many keeps; a disk that can't be. Under: both package variables as they are laid. -/
import Derived.Test.YtphlebbihfcaoaaDoorG8
namespace Go.Proofs.YtphlebbihfcaoaaDoor
open Go.RowKit

set_option maxRecDepth 100000 in
set_option maxHeartbeats 4000000 in
theorem whole_long (LA K : Option Addr) (lc kc : Nat) (l : List Sup) (fz : Int) (keeps : List Bool) (a : Addr) (w : World) (hg : Glob w a) (h : 10 < (l.length : Int)) :
    Calls Tryd.prog 4 #[.slice LA l.length lc, .int .u8 fz, .slice K keeps.length kc] w (Yes w) := by
  have HG := Lib.hid hg; clear hg
  go_enter Tryd.func4, Tryd.ntmps4
  go_wp2_with fail
  refine (alive_any a _ HG.out).mono ?_
  rintro e w1 ⟨rfl, hb⟩
  have H1 := Lib.hid hb
  clear hb
  go_wp2_with fail
  go_ret
  exact ⟨rfl, H1.out⟩

set_option maxRecDepth 100000 in
set_option maxHeartbeats 4000000 in
theorem whole_none (LA K : Option Addr) (lc kc : Nat) (fz : Int) (keeps : List Bool) (a : Addr) (w : World) (hg : Glob w a) :
    Calls Tryd.prog 4 #[.slice LA 0 lc, .int .u8 fz, .slice K keeps.length kc] w (Yes w) := by
  have HG := Lib.hid hg; clear hg
  go_enter Tryd.func4, Tryd.ntmps4
  go_wp2_with fail
  refine (alive_any a _ HG.out).mono ?_
  rintro e w1 ⟨rfl, hb⟩
  have H1 := Lib.hid hb
  clear hb
  go_wp2_with fail
  go_ret
  exact ⟨rfl, H1.out⟩

set_option maxRecDepth 100000 in
set_option maxHeartbeats 4000000 in
theorem whole_keeps (LA K : Option Addr) (lc kc : Nat) (l : List Sup) (fz : Int) (keeps : List Bool) (a : Addr) (w : World) (hg : Glob w a) (h0 : 0 < (l.length : Int)) (h10 : (l.length : Int) ≤ 10) (h50 : 50 < (keeps.length : Int)) :
    Calls Tryd.prog 4 #[.slice LA l.length lc, .int .u8 fz, .slice K keeps.length kc] w (Yes w) := by
  have hlz : ((l.length : Int) == 0) = false := beq_eq_false_iff_ne.2 (by omega)
  have HG := Lib.hid hg; clear hg
  go_enter Tryd.func4, Tryd.ntmps4
  go_wp2_with fail
  refine (alive_any a _ HG.out).mono ?_
  rintro e w1 ⟨rfl, hb⟩
  have H1 := Lib.hid hb
  clear hb
  go_wp2_with fail
  go_ret
  exact ⟨rfl, H1.out⟩

set_option maxRecDepth 100000 in
set_option maxHeartbeats 4000000 in
theorem whole_new (LA K : Option Addr) (lc kc : Nat) (l : List Sup) (fz : Int) (keeps : List Bool) (a : Addr) (w : World) (hl : Ss w w.heap.size LA l) (hg : Glob w a)
    (h0 : 0 < (l.length : Int)) (h10 : (l.length : Int) ≤ 10) (h50 : (keeps.length : Int) ≤ 50) (b0 : Sup) (hb0 : l[0]? = some b0) (hn : b0.n < 1 ∨ 64 < b0.n) :
    Calls Tryd.prog 4 #[.slice LA l.length lc, .int .u8 fz, .slice K keeps.length kc] w (Yes w) := by
  have hlz : ((l.length : Int) == 0) = false := beq_eq_false_iff_ne.2 (by omega)
  obtain ⟨la, rfl, _⟩ := hl 0 b0 hb0
  have HL := Lib.hid hl; clear hl
  have HG := Lib.hid hg; clear hg
  have hnew : ∀ v, Calls Tryd.prog 15 #[.int .i64 b0.n] v (GivesD [] [] 0 false 1 v) := by
    intro v
    have := rnew_any b0.n v
    rcases hn with q | q
    · rw [if_pos q, if_pos q] at this
      exact this
    · rw [if_neg (by omega), if_pos q, if_neg (by omega), if_pos q] at this
      exact this
  have HNEW := Lib.hid hnew; clear hnew hn
  go_enter Tryd.func4, Tryd.ntmps4
  go_wp2_with fail
  refine (alive_any a _ HG.out).mono ?_
  rintro e w1 ⟨rfl, hb⟩
  have H1 := Lib.hid hb
  clear hb
  obtain ⟨la', e1, _, hc⟩ := HL.out.up H1.out 0 b0 hb0
  injection e1 with e1
  subst e1
  have c0 : w1.cell? la = some (.int .i64 b0.n) := hc.c0
  clear hc
  go_wp2_with fail
  refine (HNEW.out _).mono ?_
  rintro e w2 ⟨A1, B1, n1, m1, rfl, _, hb⟩
  have H2 := Lib.hid (ext H1.out hb)
  clear hb c0
  go_wp2_with fail
  go_ret
  exact ⟨rfl, ext_alloc H2.out _⟩

theorem right_never (k : Nat) (h : 62 < k) : rightB (List.replicate k e0 ++ [e0, e0]) [] 0 = false := by
  unfold rightB
  rw [decide_eq_true (show (64 : Int) < ((List.replicate k e0 ++ [e0, e0]).length : Int) by simp; omega)]
  simp

set_option maxRecDepth 100000 in
set_option maxHeartbeats 4000000 in
theorem whole_wide (LA K : Option Addr) (lc kc : Nat) (l : List Sup) (fz : Int) (keeps : List Bool) (a : Addr) (w : World) (hl : Ss w w.heap.size LA l) (hg : Glob w a)
    (h0 : 0 < (l.length : Int)) (h10 : (l.length : Int) ≤ 10) (h50 : (keeps.length : Int) ≤ 50) (b0 : Sup) (hb0 : l[0]? = some b0) (k0 : Nat) (hk0 : b0.n = (k0 : Int)) (h1 : 1 ≤ k0) (h62 : 62 < k0) (h64 : k0 ≤ 64) :
    Calls Tryd.prog 4 #[.slice LA l.length lc, .int .u8 fz, .slice K keeps.length kc] w (Yes w) := by
  have hlz : ((l.length : Int) == 0) = false := beq_eq_false_iff_ne.2 (by omega)
  obtain ⟨la, rfl, hla, _⟩ := hl 0 b0 hb0
  have HL := Lib.hid hl; clear hl
  have HG := Lib.hid hg; clear hg
  have HLA := Lib.hid hla; clear hla
  go_enter Tryd.func4, Tryd.ntmps4
  go_wp2_with fail
  refine (alive_any a _ HG.out).mono ?_
  rintro e w1 ⟨rfl, hb⟩
  have H1 := Lib.hid hb
  clear hb
  obtain ⟨la', e1, _, hc⟩ := HL.out.up H1.out 0 b0 hb0
  injection e1 with e1
  subst e1
  have c0 : w1.cell? la = some (.int .i64 b0.n) := hc.c0
  rw [hk0] at c0
  clear hc
  go_wp2_with fail
  refine (rnew_own k0 h1 (by omega) _).mono ?_
  rintro e w2 ⟨rfl, ho, hb⟩
  have H2 := Lib.hid (ext_alloc (ext H1.out hb) (.cells #[.slice (some ⟨w1.heap.size + 1, 0, none⟩) k0 k0, .slice none 0 0, .int .i64 0, .bool false] 25))
  have X2 := Lib.hid (Box.new w2 [.slice (some ⟨w1.heap.size + 1, 0, none⟩) k0 k0, .slice none 0 0, .int .i64 0, .bool false] 25)
  have O2 := Lib.hid (own_up ho (below1 (o := .cells #[.slice (some ⟨w1.heap.size + 1, 0, none⟩) k0 k0, .slice none 0 0, .int .i64 0, .bool false] 25)))
  have HLT := Lib.hid ((own_block_lt ho (w1.heap.size + 1) rfl).2)
  have hbd := hb.size
  have HBD := Lib.hid (show w.heap.size ≤ w2.heap.size from by have := H1.out.size; omega)
  have kx := X2.out.cell
  have fx := X2.out.frozen
  clear hb ho c0 hbd
  have hS : (List.replicate k0 e0 ++ [e0, e0]).length = k0 + 2 := by simp
  have HR := Lib.hid (right_never k0 h62)
  go_wp2_with (at_builtin; refine app_strs rfl _ _ rfl _ w1.heap.size ?c1 _ (List.replicate k0 e0) rfl ?c2 (some ⟨w2.heap.size + 1, 0, none⟩) 2 [e0, e0] ?c3 rfl ?c4 ?c5 ?_)
  case c1 => have := HLT.out; simp; omega
  case c2 => exact own_up O2.out below1
  case c3 => intro q; cases q
  case c4 => have := es_new2 Value.string w2 (.cells #[.slice (some ⟨w1.heap.size + 1, 0, none⟩) k0 k0, .slice none 0 0, .int .i64 0, .bool false] 25) [e0, e0] 9; simpa using this
  case c5 => simp; omega
  intro v' w4 hown hgrow
  replace hown : w4.ownsRow w1.heap.size 9 1 v' (List.replicate k0 e0 ++ [e0, e0]).length ((List.replicate k0 e0 ++ [e0, e0]).map Value.string) := by simpa using hown
  have x4 := (X2.out.alloc (.cells #[.string e0, .string e0] 9)).grown hgrow (by have := HLT.out; simp [Value.ownBlock]; omega)
  have h4 := (H2.out.alloc H2.out.size (.cells #[.string e0, .string e0] 9)).grown hgrow (by have := H2.out.size; simp; simp at this; omega) (by have := H1.out.size; simp [Value.ownBlock]; omega)
  generalize List.replicate k0 e0 ++ [e0, e0] = S0 at *
  obtain ⟨A1, cap1, rfl, hA1, he1⟩ := own_es hown
  have HS := Lib.hid hS
  clear hS
  have m4 : Mem w4 A1 cap1 none 0 S0 [] := ⟨he1, ws_nil _ _ _, hA1, fun _ => rfl⟩
  have M5 := Lib.hid (m4.set x4 (noText_four _ _ _ _ _ _ _ _) 0 (.slice A1 S0.length cap1))
  have X5 := Lib.hid (x4.set 0 (.slice A1 S0.length cap1))
  have H5 := Lib.hid (h4.setCell (p := ⟨w2.heap.size, 0, none⟩) HBD.out (.slice A1 S0.length cap1))
  clear kx fx
  have kx := x4.cell
  have fx := x4.frozen
  clear x4 h4 m4 he1 hown hgrow X2 H2 O2
  have hri := fun w' (h : Mem w' A1 cap1 none 0 S0 []) => rright_any A1 none cap1 0 S0 [] 0 false w' h.es h.ws (by simp)
  rw [HR.out] at hri
  have HRI := Lib.hid hri
  clear hri
  go_wp2_with fail
  refine (HRI.out _ M5.out).mono ?_
  rintro e w6 ⟨rfl, hb⟩
  have H6 := Lib.hid (ext H5.out hb)
  clear hb
  go_wp2_with fail
  go_ret
  exact ⟨rfl, H6.out⟩

theorem whole_law (LA : Option Addr) (lc : Nat) (l : List Sup) (fz : Int) (K : Option Addr) (kc : Nat) (keeps : List Bool) (a : Addr) (w : World) (hl : Ss w w.heap.size LA l) (hw : ∀ s ∈ l, s.wide) (hf : 0 ≤ fz ∧ fz < 256) (hk : Es Value.bool w w.heap.size K keeps) (hg : Glob w a) :
    Calls Tryd.prog 4 #[.slice LA l.length lc, .int .u8 fz, .slice K keeps.length kc] w (Yes w) := by
  by_cases h10 : 10 < (l.length : Int)
  · exact whole_long LA K lc kc l fz keeps a w hg h10
  · by_cases h0 : 0 < l.length
    · by_cases h50 : 50 < (keeps.length : Int)
      · exact whole_keeps LA K lc kc l fz keeps a w hg (by omega) (by omega) h50
      · have hb0 : l[0]? = some l[0] := List.getElem?_eq_getElem h0
        by_cases hn : l[0].n < 1 ∨ 64 < l[0].n
        · exact whole_new LA K lc kc l fz keeps a w hl hg (by omega) (by omega) (by omega) _ hb0 hn
        · obtain ⟨k0, hk0⟩ := Int.eq_ofNat_of_zero_le (show 0 ≤ l[0].n by omega)
          by_cases h62 : k0 ≤ 62
          · exact whole_good LA K lc kc l fz keeps a w hl hw hf hk hg (by omega) (by omega) (by omega) _ hb0 k0 hk0 (by omega) h62
          · exact whole_wide LA K lc kc l fz keeps a w hl hg (by omega) (by omega) (by omega) _ hb0 k0 hk0 (by omega) (by omega) (by omega)
    · cases l with
      | nil => exact whole_none LA K lc kc fz keeps a w hg
      | cons x l => exact absurd (Nat.succ_pos _) h0
end Go.Proofs.YtphlebbihfcaoaaDoor
