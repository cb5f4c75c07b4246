/- Disks: the walk of the law on what a crash leaves: it answers true, for every disk and list. No other condition but that its lists lie in memory. -/
import Derived.Test.YtifcmpcgpcbljaaF2
namespace Go.Proofs.Ytifcmpcgpcbljaa
open Go.RowKit

theorem lay_mem : ∀ (c : List Wr) (s : List ByteArray) (t : ByteArray), t ∈ layL s c → t ∈ s ∨ ∃ x ∈ c, x.2 = t := by
  intro c
  induction c with
  | nil => intro s t h; exact .inl h
  | cons x c ih =>
    intro s t h
    rcases ih (s.set x.1.toNat x.2) t h with h | ⟨y, hy, e⟩
    · rcases List.mem_or_eq_of_mem_set h with h | h
      · exact .inl h
      · exact .inr ⟨x, List.mem_cons_self .., h.symm⟩
    · exact .inr ⟨y, List.mem_cons_of_mem _ hy, e⟩

theorem right_revived {s : List ByteArray} {c : List Wr} {f : Int} (h : rightB s c f = true) (keeps : List Bool) (k : Nat) : rightB (layL s (keptL c keeps k)) [] 0 = true := by
  obtain ⟨h1, h2, _, h4, h5⟩ := right_of h
  refine right_b6 (by rw [lay_length]; omega) (by rw [lay_length]; omega) (by omega) ?_ rfl
  rw [List.any_eq_false]
  intro t ht
  rcases lay_mem _ _ _ ht with ht | ⟨x, hx, rfl⟩
  · exact List.any_eq_false.1 h4 t ht
  · have := fits h5 x (kept_mem _ _ _ x hx)
    have hn : longS x.2 = false := long_no (by omega)
    rw [hn]; simp

/-- One of the first k writes of sector i is this text, or it was there. -/
def okL (c : List Wr) (i : Nat) (t d : ByteArray) (k : Nat) : Bool := decide (t = d) || (c.take k).any fun y => decide (y.1 = (i : Int)) && decide (y.2 = t)
theorem ok_zero (c : List Wr) (i : Nat) (t d : ByteArray) : okL c i t d 0 = decide (t = d) := by unfold okL; simp
theorem ok_succ {c : List Wr} {i : Nat} {t d : ByteArray} {k : Nat} (h : k < c.length) : okL c i t d (k + 1) = (okL c i t d k || (decide (c[k].1 = (i : Int)) && decide (c[k].2 = t))) := by
  unfold okL
  rw [take_snoc c k h, List.any_append, List.any_cons, List.any_nil, Bool.or_false, Bool.or_assoc]
theorem ok_end {c : List Wr} {s : List ByteArray} {keeps : List Bool} {i k : Nat} (hx : ∀ x ∈ c, 0 ≤ x.1) (hi : i < s.length) {t : ByteArray} (ht : (layL s (keptL c keeps k))[i]? = some t) : okL c i t s[i] c.length = true := by
  unfold okL
  rw [List.take_length]
  rw [lay_at _ s i hi (fun x h => hx x (kept_mem _ _ _ x h))] at ht
  injection ht with ht
  rcases holds_one (keptL c keeps k) i s[i] with h | ⟨x, hxm, e1, e2⟩
  · rw [← ht, h]; simp
  · have : (c.any fun y => decide (y.1 = (i : Int)) && decide (y.2 = t)) = true := List.any_eq_true.2 ⟨x, kept_mem _ _ _ x hxm, by rw [← ht]; simp [e1, e2]⟩
    rw [this, Bool.or_true]

set_option maxRecDepth 100000 in
set_option maxHeartbeats 2000000 in
theorem atomic_stop (A B K : Option Addr) (n m r : Nat) (s : List ByteArray) (c : List Wr) (l : List Bool) (f : Int) (x : Bool) (w : World) (hm : Mem w A n B m s c)
    (hs : greatB s c = true ∨ (greatB s c = false ∧ 200 < (l.length : Int))) :
    Calls Try.prog 6 #[.agg #[.slice A s.length n, .slice B c.length m, .int .i64 f, .bool x], .slice K l.length r] w (Yes w) := by
  have BX := Lib.hid (Box.new w [.slice A s.length n, .slice B c.length m, .int .i64 f, .bool x] 25)
  have HM := Lib.hid hm; clear hm
  have HS := Lib.hid hs; clear hs
  go_enter Try.func6, Try.ntmps6
  go_wp2_with fail
  refine (alive_any _).mono ?_
  rintro e w1 ⟨rfl, hb1⟩
  have k1 := (BX.out.below hb1).cell
  have HB := Lib.hid (ext below1 hb1)
  clear hb1 BX
  go_wp2_with fail
  refine (great_any A B n m s c f x _ (HM.out.up HB.out).es (HM.out.up HB.out).ws).mono ?_
  rintro e w2 ⟨rfl, hb2⟩
  have HB2 := Lib.hid (ext HB.out hb2)
  clear hb2
  rcases HS.out with hg | ⟨hg, hd⟩
  all_goals
    clear HS
    rw [hg]
    go_wp2_with fail
    go_ret
    exact ⟨rfl, HB2.out⟩

set_option maxRecDepth 100000 in
set_option maxHeartbeats 2000000 in
theorem atomic_wrong (A B K : Option Addr) (n m r : Nat) (s : List ByteArray) (c : List Wr) (l : List Bool) (f : Int) (x : Bool) (w : World) (hm : Mem w A n B m s c) (h : greatB s c = false) (hd : (l.length : Int) ≤ 200) (hs : rightB s c f = false ∨ (rightB s c f = true ∧ x = true)) :
    Calls Try.prog 6 #[.agg #[.slice A s.length n, .slice B c.length m, .int .i64 f, .bool x], .slice K l.length r] w (Yes w) := by
  have BX := Lib.hid (Box.new w [.slice A s.length n, .slice B c.length m, .int .i64 f, .bool x] 25)
  have ML := Lib.hid (right_len h)
  have HM := Lib.hid hm; clear hm
  have HG := Lib.hid h; clear h
  have HS := Lib.hid hs; clear hs
  go_enter Try.func6, Try.ntmps6
  go_wp2_with fail
  refine (alive_any _).mono ?_
  rintro e w1 ⟨rfl, hb1⟩
  have k1 := (BX.out.below hb1).cell
  have b1 := Lib.hid (BX.out.below hb1)
  have HB := Lib.hid (ext below1 hb1)
  clear hb1 BX
  go_wp2_with fail
  refine (great_any A B n m s c f x _ (HM.out.up HB.out).es (HM.out.up HB.out).ws).mono ?_
  rintro e w2 ⟨rfl, hb2⟩
  rw [HG.out]
  have HB2 := Lib.hid (ext HB.out hb2)
  have b2 := Lib.hid (b1.out.below hb2)
  have k2 := b2.out.cell
  clear hb2 k1 b1
  go_wp2_with fail
  refine (rright_any A B n m s c f x _ (HM.out.up HB2.out).es (HM.out.up HB2.out).ws ML.out.2).mono ?_
  rintro e w3 ⟨rfl, hb3⟩
  have HB3 := Lib.hid (ext HB2.out hb3)
  have k3 := (b2.out.below hb3).cell
  clear hb3 k2 b2
  rcases HS.out with hr | ⟨hr, rfl⟩
  all_goals
    clear HS
    rw [hr]
    go_wp2_with fail
    go_ret
    exact ⟨rfl, HB3.out⟩

set_option maxRecDepth 100000 in
set_option maxHeartbeats 16000000 in
theorem atomic_any (A B K : Option Addr) (n m r : Nat) (s : List ByteArray) (c : List Wr) (l : List Bool) (f : Int) (w : World) (hm : Mem w A n B m s c) (hk : Es Value.bool w w.heap.size K l) (h : greatB s c = false) (hl : (l.length : Int) ≤ 200) (hr : rightB s c f = true) :
    Calls Try.prog 6 #[.agg #[.slice A s.length n, .slice B c.length m, .int .i64 f, .bool false], .slice K l.length r] w (Yes w) := by
  have BX := Lib.hid (Box.new w [.slice A s.length n, .slice B c.length m, .int .i64 f, .bool false] 25)
  have ml := right_len h
  have hg := great_small h
  obtain ⟨hs1, hs64, _, _, hx⟩ := right_of hr
  have hll : l.length ≤ maxLen := by unfold maxLen; omega
  have hfit := fits hx
  have hcr := fun w => crash_any A B s.length n c.length m f false w
  have hrev := fun w (hm : Mem w A n B m s c) (hk : Es Value.bool w w.heap.size K l) => revive_any A B K n m r s c l 0 true w hm hk hs64 (by omega) hll hx
  have hrr := right_revived hr l c.length
  have hul := lay_length (keptL c l c.length) s
  have hok := fun i hi t ht => @ok_end c s l i c.length (fun x hx => (hfit x hx).1) hi t ht
  generalize layL s (keptL c l c.length) = u at *
  have hrru := fun A5 B5 n5 m5 w (hm5 : Mem w A5 n5 B5 m5 u []) => rright_any A5 B5 n5 m5 u [] 0 false w hm5.es hm5.ws (by decide)
  rw [hrr] at hrru
  have ML := Lib.hid ml; clear ml
  have HM := Lib.hid hm; clear hm
  have HKS := Lib.hid hk; clear hk
  have HG := Lib.hid h; clear h
  have HR := Lib.hid hr; clear hr
  have HCR := Lib.hid hcr; clear hcr
  have HREV := Lib.hid hrev; clear hrev
  have HUL := Lib.hid hul; clear hul
  have HOK := Lib.hid hok; clear hok
  have HRRU := Lib.hid hrru; clear hrru
  have HX := Lib.hid hx; clear hx
  have HFIT := Lib.hid hfit; clear hfit
  have HS64 := Lib.hid (And.intro hs1 hs64); clear hs1 hs64
  have HLL := Lib.hid hll; clear hll
  have HCL := Lib.hid hg; clear hg
  clear hrr
  go_enter Try.func6, Try.ntmps6
  go_wp2_with fail
  refine (alive_any _).mono ?_
  rintro e w1 ⟨rfl, hb1⟩
  have k1 := (BX.out.below hb1).cell
  have b1 := Lib.hid (BX.out.below hb1)
  have HB := Lib.hid (ext below1 hb1)
  clear hb1 BX
  go_wp2_with fail
  refine (great_any A B n m s c f false _ (HM.out.up HB.out).es (HM.out.up HB.out).ws).mono ?_
  rintro e w2 ⟨rfl, hb2⟩
  rw [HG.out]
  have HB2 := Lib.hid (ext HB.out hb2)
  have b2 := Lib.hid (b1.out.below hb2)
  have k2 := b2.out.cell
  clear hb2 k1 b1 HB
  go_wp2_with fail
  refine (rright_any A B n m s c f false _ (HM.out.up HB2.out).es (HM.out.up HB2.out).ws ML.out.2).mono ?_
  rintro e w3 ⟨rfl, hb3⟩
  rw [HR.out]
  have HB3 := Lib.hid (ext HB2.out hb3)
  have b3 := Lib.hid (b2.out.below hb3)
  have k3 := b3.out.cell
  clear hb3 k2 b2 HB2
  go_wp2_with fail
  refine (HCR.out _).mono ?_
  rintro e w4 ⟨rfl, hb4⟩
  have HB4 := Lib.hid (ext HB3.out hb4)
  have b4 := Lib.hid (b3.out.below hb4)
  clear hb4 k3 b3 HB3 HCR
  go_wp2_with fail
  refine (HREV.out _ (HM.out.up HB4.out) (HKS.out.up HB4.out)).mono ?_
  rintro e w5 ⟨A5, B5, n5, m5, rfl, hm5, hb5⟩
  have X5 := Lib.hid (Kept.new (f := 0) (x := false) hm5)
  have O5 := Lib.hid ((b4.out.below hb5).alloc (.cells #[.slice A5 u.length n5, .slice B5 0 m5, .int .i64 0, .bool false] 25))
  have HB5 := Lib.hid (ext_alloc (ext HB4.out hb5) (.cells #[.slice A5 u.length n5, .slice B5 0 m5, .int .i64 0, .bool false] 25))
  clear hm5 hb5 b4 HB4 HREV
  go_wp2_with fail
  refine (HRRU.out _ _ _ _ _ X5.out.mem).mono ?_
  rintro e W0 ⟨rfl, hb6⟩
  have X6 := Lib.hid (X5.out.up hb6)
  have O6 := Lib.hid (O5.out.below hb6)
  have HB6 := Lib.hid (ext HB5.out hb6)
  have kx := X6.out.box.cell
  have ko := O6.out.cell
  have hule : ((u.length : Int) == (s.length : Int)) = true := by rw [HUL.out]; simp
  have huln : ((u.length : Int) != (s.length : Int)) = false := by simp [bne, hule]
  clear hb6 X5 O5 HB5 HRRU
  rw [show ([] : List Wr).length = 0 from rfl] at kx
  go_wp2
  clear hule huln kx ko
  go_loopw [6, 7, 8] (fun i _ _ wr => ∃ k q : Nat, k ≤ u.length ∧ i = .int .i64 k ∧ wr = W0.drewN q) (fun i _ _ _ => u.length - (intOf i).toNat)
  case atStart => exact ⟨0, 0, by omega, rfl, rfl⟩
  case round =>
    obtain ⟨i, q, hi, rfl, rfl⟩ := hrel
    have hu64 : u.length ≤ 64 := by have := HUL.out; have := HS64.out; omega
    have hc100 : c.length ≤ 100 := by have := HCL.out; omega
    have kx := X6.out.box.cell
    have ko := O6.out.cell
    rw [show ([] : List Wr).length = 0 from rfl] at kx
    by_cases hlt : i < u.length
    · have hlt2 : i < s.length := by rw [← HUL.out]; exact hlt
      obtain ⟨a5, rfl, _, hc5⟩ := X6.out.mem.es i u[i] (List.getElem?_eq_getElem hlt)
      obtain ⟨a0, rfl, _, hc0⟩ := (HM.out.up HB6.out).es i s[i] (List.getElem?_eq_getElem hlt2)
      have HT5 := Lib.hid (show u[i]? = some u[i] from List.getElem?_eq_getElem hlt)
      have hend := HOK.out i hlt2 u[i] (List.getElem?_eq_getElem hlt)
      have HSUC := Lib.hid (fun kk (hk : kk < c.length) => @ok_succ c i u[i] s[i] kk hk)
      have hz := ok_zero c i u[i] s[i]
      have hlu : (i : Int) < (u.length : Int) := by omega
      have hls : (i : Int) < (s.length : Int) := by omega
      generalize u[i] = t at *
      generalize s[i] = d at *
      have HEND := Lib.hid hend; clear hend
      have htx : (t.toList == d.toList) = okL c i t d 0 := by rw [text_eq, hz]
      clear hz
      go_wp2
      go_quiet (fail)
      go_wp2
      clear htx kx ko hc5 hc0
      go_loopw [7, 8] (fun ok k wr => ∃ q kk : Nat, kk ≤ c.length ∧ ok = .bool (okL c i t d kk) ∧ k = .int .i64 kk ∧ wr = W0.drewN q) (fun _ k _ => c.length - (intOf k).toNat)
      case atStart => exact ⟨_, 0, by omega, rfl, rfl, World.drewN_drewN _ _ _⟩
      case round =>
        obtain ⟨q2, kk, hkk, rfl, rfl, rfl⟩ := hrel
        have kx := X6.out.box.cell
        have ko := O6.out.cell
        rw [show ([] : List Wr).length = 0 from rfl] at kx
        obtain ⟨a5', ha5', _, hc5⟩ := X6.out.mem.es i t HT5.out
        injection ha5' with ha5'
        subst ha5'
        by_cases hkl : kk < c.length
        · obtain ⟨a1, rfl, _, hc1, hd1⟩ := (HM.out.up HB6.out).ws kk c[kk] (List.getElem?_eq_getElem hkl)
          have hs := HSUC.out kk hkl
          have hkc : (kk : Int) < (c.length : Int) := by omega
          generalize c[kk] = y at *
          obtain ⟨p, v⟩ := y
          dsimp only at *
          cases hok : okL c i t d kk with
          | true =>
            rw [hok, Bool.true_or] at hs
            have HS := Lib.hid hs; clear hs hok
            go_wp2
            go_quiet (fail)
            go_wp2
            go_roundw
            case rel => exact ⟨_, kk + 1, by omega, by rw [HS.out], by go_num, rfl⟩
            case measure => simp [intOf]; omega
          | false =>
            rw [hok, Bool.false_or] at hs
            clear hok
            by_cases hp : p = (i : Int)
            · have hpe : (p == (i : Int)) = true := by simp [hp]
              rw [decide_eq_true hp, Bool.true_and] at hs
              clear hp
              by_cases hv : v = t
              · have hve : (v.toList == t.toList) = true := by rw [text_eq, decide_eq_true hv]
                rw [decide_eq_true hv] at hs
                have HS := Lib.hid hs; clear hs hv
                go_wp2
                go_quiet (fail)
                go_wp2
                go_roundw
                case rel => exact ⟨_, kk + 1, by omega, by rw [HS.out], by go_num, rfl⟩
                case measure => simp [intOf]; omega
              · have hve : (v.toList == t.toList) = false := by rw [text_eq, decide_eq_false hv]
                rw [decide_eq_false hv] at hs
                have HS := Lib.hid hs; clear hs hv
                go_wp2
                go_quiet (fail)
                go_wp2
                go_roundw
                case rel => exact ⟨_, kk + 1, by omega, by rw [HS.out], by go_num, rfl⟩
                case measure => simp [intOf]; omega
            · have hpe : (p == (i : Int)) = false := beq_eq_false_iff_ne.2 hp
              rw [decide_eq_false hp, Bool.false_and] at hs
              have HS := Lib.hid hs; clear hs hp
              go_wp2
              go_quiet (fail)
              go_wp2
              go_roundw
              case rel => exact ⟨_, kk + 1, by omega, by rw [HS.out], by go_num, rfl⟩
              case measure => simp [intOf]; omega
        · obtain rfl : kk = c.length := by omega
          rw [HEND.out]
          go_wp2
          go_roundw
          case rel => exact ⟨i + 1, q2, by omega, by go_num, rfl⟩
          case measure => simp [intOf]; omega
    · obtain rfl : i = u.length := by omega
      have harm := fun w => arm_any A B s.length n c.length m f 0 false w
      rw [if_neg (show ¬ (0 : Int) < 0 by omega)] at harm
      have hlayl := lay_length c s
      have hat := fun j hj => lay_at c s j hj fun x hx => (HFIT.out x hx).1
      have hfl := fun w hm => flush_any A B n m s c 0 w hm HS64.out.2 (by unfold maxLen; omega) (by omega) (by omega) HX.out
      have hrd1 := fun (j : Nat) t w hm ht => read_any A B n m s c f j t w hm ht (by omega)
      rw [show burnF 0 = 0 from rfl] at hfl
      generalize layL s c = v at *
      have hrev2 := fun A9 B9 n9 m9 w (hm9 : Mem w A9 n9 B9 m9 v []) hk9 => revive_any A9 B9 K n9 m9 r v [] l 0 true w hm9 hk9 (by rw [hlayl]; exact HS64.out.2) (by simp) HLL.out rfl
      rw [show keptL [] l ([] : List Wr).length = [] from rfl, lay_nil] at hrev2
      have hrd2 := fun A9 B9 n9 m9 (j : Nat) t w (hm9 : Mem w A9 n9 B9 m9 v []) (ht : v[j]? = some t) => read_any A9 B9 n9 m9 v [] 0 j t w hm9 ht (by simp)
      have HARM := Lib.hid harm; clear harm
      have HLAYL := Lib.hid hlayl; clear hlayl
      have HAT := Lib.hid hat; clear hat
      have HFLU := Lib.hid hfl; clear hfl
      have HRD1 := Lib.hid hrd1; clear hrd1
      have HREV2 := Lib.hid hrev2; clear hrev2
      have HRD2 := Lib.hid hrd2; clear hrd2
      clear HOK hc100 hu64
      go_wp2_with fail
      refine (HARM.out _).mono ?_
      rintro e w7 ⟨rfl, hb7⟩
      have hb7' : Below W0.heap.size W0 w7 := ext (ext_drewN (Below.refl _ W0) q) hb7
      have O7 := Lib.hid (O6.out.below hb7')
      have HB7 := Lib.hid (ext HB6.out hb7')
      clear hb7 hb7' kx ko O6 X6 HB6
      go_wp2_with fail
      refine (HFLU.out _ (HM.out.up HB7.out)).mono ?_
      rintro e w8 ⟨A8, B8, n8, m8, rfl, hm8, hb8⟩
      have F8 := Lib.hid (hm8.up (below1 (o := .cells #[.slice A8 v.length n8, .slice B8 0 m8, .int .i64 0, .bool false] 25)))
      have O8 := Lib.hid ((O7.out.below hb8).alloc (.cells #[.slice A8 v.length n8, .slice B8 0 m8, .int .i64 0, .bool false] 25))
      have HB8 := Lib.hid (ext_alloc (ext HB7.out hb8) (.cells #[.slice A8 v.length n8, .slice B8 0 m8, .int .i64 0, .bool false] 25))
      clear hm8 hb8 O7 HB7
      go_wp2_with fail
      refine (crash_any A8 B8 v.length n8 0 m8 0 false _).mono ?_
      rintro e w9 ⟨rfl, hb9⟩
      have F9 := Lib.hid (F8.out.up hb9)
      have O9 := Lib.hid (O8.out.below hb9)
      have HB9 := Lib.hid (ext HB8.out hb9)
      clear hb9 F8 O8 HB8
      go_wp2_with fail
      refine (HREV2.out A8 B8 n8 m8 _ F9.out (HKS.out.up HB9.out)).mono ?_
      rintro e w10 ⟨A10, B10, n10, m10, rfl, hm10, hb10⟩
      have Y10 := Lib.hid (Kept.new (f := 0) (x := false) hm10)
      have O10 := Lib.hid ((O9.out.below hb10).alloc (.cells #[.slice A10 v.length n10, .slice B10 0 m10, .int .i64 0, .bool false] 25))
      have HB10 := Lib.hid (ext_alloc (ext HB9.out hb10) (.cells #[.slice A10 v.length n10, .slice B10 0 m10, .int .i64 0, .bool false] 25))
      clear hm10 hb10 F9 O9 HB9
      go_wp2_with fail
      rw [show ([] : List Wr).length = 0 from rfl] at Y10
      generalize w10.alloc (.cells #[.slice A10 v.length n10, .slice B10 0 m10, .int .i64 0, .bool false] 25) = W1 at *
      go_loopw [12, 13, 14, 15, 16] (fun i _ _ _ _ wr => ∃ k : Nat, k ≤ s.length ∧ i = .int .i64 k ∧ Hid (Below W1.heap.size W1 wr)) (fun i _ _ _ _ _ => s.length - (intOf i).toNat)
      case atStart => exact ⟨0, by omega, rfl, Below.refl _ _⟩
      case round =>
        obtain ⟨k, hk, rfl, HBr⟩ := hrel
        have ko := (O10.out.below HBr.out).cell
        have hs64 : s.length ≤ 64 := HS64.out.2
        by_cases hlt3 : k < s.length
        · have hrd1 := HRD1.out k s[k] wr ((HM.out.up HB10.out).up HBr.out) (List.getElem?_eq_getElem hlt3)
          have hat := HAT.out k hlt3
          have hrd2 := fun w hm => HRD2.out A10 B10 n10 m10 k _ w hm hat
          simp only [holds_nil] at hrd2
          generalize holdsL c k s[k] = tt at *
          have HRDY := Lib.hid hrd2; clear hrd2 hat
          go_wp2_with fail
          refine hrd1.mono ?_
          rintro e w11 ⟨rfl, hb11⟩
          have ky := (Y10.out.up (ext HBr.out hb11)).box.cell
          have HB11 := Lib.hid (ext HBr.out hb11)
          clear hb11 hrd1 ko
          rw [show ([] : List Wr).length = 0 from rfl] at ky
          go_wp2_with fail
          refine (HRDY.out _ (Y10.out.mem.up HB11.out)).mono ?_
          rintro e w12 ⟨rfl, hb12⟩
          have HB12 := Lib.hid (ext HB11.out hb12)
          clear hb12 ky
          go_wp2_with fail
          go_roundw
          case rel => exact ⟨k + 1, by omega, by go_num, HB12.out⟩
          case measure => simp [intOf]; omega
        · obtain rfl : k = s.length := by omega
          go_wp2_with fail
          go_ret
          exact ⟨ret_bool (by simp), ext HB10.out HBr.out⟩

theorem atomic_law (A B K : Option Addr) (n m r : Nat) (s : List ByteArray) (c : List Wr) (l : List Bool) (f : Int) (x : Bool) (w : World) (hm : Mem w A n B m s c) (hk : Es Value.bool w w.heap.size K l) :
    Calls Try.prog 6 #[.agg #[.slice A s.length n, .slice B c.length m, .int .i64 f, .bool x], .slice K l.length r] w (Yes w) := by
  cases h : greatB s c with
  | true => exact atomic_stop A B K n m r s c l f x w hm (.inl h)
  | false =>
    by_cases hl : 200 < (l.length : Int)
    · exact atomic_stop A B K n m r s c l f x w hm (.inr ⟨h, hl⟩)
    · cases hr : rightB s c f with
      | false => exact atomic_wrong A B K n m r s c l f x w hm h (by omega) (.inl hr)
      | true =>
        cases x with
        | true => exact atomic_wrong A B K n m r s c l f true w hm h (by omega) (.inr ⟨hr, rfl⟩)
        | false => exact atomic_any A B K n m r s c l f w hm hk h (by omega) hr
end Go.Proofs.Ytifcmpcgpcbljaa
