/- Lineage: the walk of LineageApart: for every list of mints within their types and every two generations. No other condition but that the list lies in memory. -/
import Derived.Test.YtpipindifeklbaaLI
namespace Go.Proofs.Ytpipindifeklbaa
open Go.RowKit

/-- True, and nothing that was there is changed. -/
def Yes (w : World) (e : Ending) (w' : World) : Prop := e = .returned (.bool true) ∧ Below w.heap.size w w'

set_option maxHeartbeats 4000000 in
theorem apart_law (A : Option Addr) (c : Nat) (l : List Mnt) (a b : Int) (w : World) (h : Ms w w.heap.size A l) (hu : Wide l) (ha : U64 a) (hb : U64 b) :
    Calls Try.prog 4 #[.slice A l.length c, .int .u64 a, .int .u64 b] w (Yes w) := by
  by_cases hlen : 100 < (l.length : Int)
  · clear h
    go_enter Try.func4, Try.ntmps4
    go_wp2_with fail
    refine (lalive_any _).mono ?_
    rintro e w1 ⟨rfl, hb1⟩
    have HB1 := Lib.hid hb1; clear hb1
    go_wp2_with fail
    go_ret
    exact ⟨rfl, HB1.out⟩
  · have hm : l.length ≤ 1000 := by omega
    by_cases ha0 : a = 0
    · subst ha0
      clear h
      go_enter Try.func4, Try.ntmps4
      go_wp2_with fail
      refine (lalive_any _).mono ?_
      rintro e w1 ⟨rfl, hb1⟩
      have HB1 := Lib.hid hb1; clear hb1
      go_wp2_with fail
      go_ret
      exact ⟨rfl, HB1.out⟩
    · by_cases hb0 : b = 0
      · subst hb0
        have qa : (a == 0) = false := beq_eq_false_iff_ne.2 ha0
        clear h
        go_enter Try.func4, Try.ntmps4
        go_wp2_with fail
        refine (lalive_any _).mono ?_
        rintro e w1 ⟨rfl, hb1⟩
        have HB1 := Lib.hid hb1; clear hb1
        go_wp2_with fail
        go_ret
        exact ⟨rfl, HB1.out⟩
      · have qa : (a == 0) = false := beq_eq_false_iff_ne.2 ha0
        have qb : (b == 0) = false := beq_eq_false_iff_ne.2 hb0
        have kc := fun w2 (q : Below w.heap.size w w2) => common_any A c l w2 (h.up q) hu hm a b ha hb
        have kp := fun w2 (q : Below w.heap.size w w2) => apart_any A c l w2 (h.up q) hu hm a b ha hb
        have kx := fun w2 (q : Below w.heap.size w w2) => line_any A c l a w2 (h.up q) hu ha hm
        have ky := fun w2 (q : Below w.heap.size w w2) => line_any A c l b w2 (h.up q) hu hb hm
        have ki := fun (o : Int) w2 (q : Below w.heap.size w w2) => in_any A c l w2 (h.up q) hu hm o a ha
        have kj := fun (o : Int) w2 (q : Below w.heap.size w w2) => in_any A c l w2 (h.up q) hu hm o b hb
        have hn := common_none l ha0 hb0
        have hp := common_apart l (a := a) (b := b)
        have hf := @firstIn_mem (lineL l a) (lineL l b)
        rw [show firstIn (lineL l a) (lineL l b) = commonI l a b from rfl] at hf
        obtain ⟨x, hx⟩ := line_first l ha0
        obtain ⟨y, hy⟩ := line_first l hb0
        rw [hx] at kx ki hf
        rw [hy] at ky kj hf
        generalize commonI l a b = m at *
        generalize apartB l a b = t at *
        have KC := Lib.hid kc; clear kc
        have KP := Lib.hid kp; clear kp
        have KX := Lib.hid kx; clear kx
        have KY := Lib.hid ky; clear ky
        have KI := Lib.hid (ki m); clear ki
        have KJ := Lib.hid (kj m); clear kj
        have HN := Lib.hid hn; clear hn
        have HP := Lib.hid hp; clear hp
        have HF := Lib.hid hf; clear hf
        clear h hx hy hu ha hb
        by_cases h0 : m = 0
        · subst h0
          have ht := HN.out rfl
          subst ht
          clear HN HP HF KX KY KI KJ ha0 hb0
          go_enter Try.func4, Try.ntmps4
          go_wp2_with fail
          refine (lalive_any _).mono ?_
          rintro e w1 ⟨rfl, hb1⟩
          have HB1 := Lib.hid hb1; clear hb1
          go_wp2_with fail
          refine (KC.out w1 HB1.out).mono ?_
          rintro e w2 ⟨rfl, hb2⟩
          have HB2 := Lib.hid (ext HB1.out hb2); clear hb2
          go_wp2_with fail
          refine (KP.out w2 HB2.out).mono ?_
          rintro e w3 ⟨rfl, hb3⟩
          have HB3 := Lib.hid (ext HB2.out hb3); clear hb3
          go_wp2_with fail
          go_ret
          exact ⟨rfl, HB3.out⟩
        · have h0' : (m == 0) = false := beq_eq_false_iff_ne.2 h0
          obtain ⟨f1, f2⟩ := HF.out h0
          have d1 := decide_eq_true f1
          have d2 := decide_eq_true f2
          rw [d1] at KI
          rw [d2] at KJ
          have hpt := HP.out h0
          have HPT := Lib.hid hpt; clear hpt
          clear HN HP HF f1 f2 d1 d2 ha0 hb0 h0
          go_enter Try.func4, Try.ntmps4
          go_wp2_with fail
          refine (lalive_any _).mono ?_
          rintro e w1 ⟨rfl, hb1⟩
          have HB1 := Lib.hid hb1; clear hb1
          go_wp2_with fail
          refine (KC.out w1 HB1.out).mono ?_
          rintro e w2 ⟨rfl, hb2⟩
          have HB2 := Lib.hid (ext HB1.out hb2); clear hb2
          go_wp2_with fail
          refine (KP.out w2 HB2.out).mono ?_
          rintro e w3 ⟨rfl, hb3⟩
          have HB3 := Lib.hid (ext HB2.out hb3); clear hb3 HB1 HB2
          go_wp2_with fail
          refine (KX.out w3 HB3.out).mono ?_
          rintro e w4 ⟨B, c4, rfl, hx4, _, hb4⟩
          have HB4 := Lib.hid (ext HB3.out hb4)
          have HX4 := Lib.hid hx4; clear hx4 hb4 HB3
          go_wp2_with fail
          refine (KY.out w4 HB4.out).mono ?_
          rintro e w5 ⟨C, c5, rfl, hy5, _, hb5⟩
          obtain ⟨ax, rfl, _, cx⟩ := (HX4.out.up hb5) 0 a rfl
          obtain ⟨ay, rfl, _, cy⟩ := hy5 0 b rfl
          have e0 : ax.add 0 = ax := by unfold Addr.add; rw [if_pos rfl]
          have e1 : ay.add 0 = ay := by unfold Addr.add; rw [if_pos rfl]
          rw [e0] at cx
          rw [e1] at cy
          have qx : ((x.length : Int) + 1 == 0) = false := beq_eq_false_iff_ne.2 (by omega)
          have qy : ((y.length : Int) + 1 == 0) = false := beq_eq_false_iff_ne.2 (by omega)
          clear e0 e1
          have HB5 := Lib.hid (ext HB4.out hb5); clear hb5 HB4 HX4 hy5
          go_wp2_with fail
          refine (KI.out w5 HB5.out).mono ?_
          rintro e w6 ⟨rfl, hb6⟩
          have HB6 := Lib.hid (ext HB5.out hb6); clear hb6 HB5
          clear cx cy
          go_wp2_with fail
          refine (KJ.out w6 HB6.out).mono ?_
          rintro e w7 ⟨rfl, hb7⟩
          have HB7 := Lib.hid (ext HB6.out hb7); clear hb7 HB6
          cases t with
          | false =>
            go_wp2_with fail
            go_ret
            exact ⟨rfl, HB7.out⟩
          | true =>
            obtain ⟨p1, p2⟩ := HPT.out rfl
            have p1' : (m != a) = true := by simp [p1]
            have p2' : (m != b) = true := by simp [p2]
            clear p1 p2
            go_wp2_with fail
            go_ret
            exact ⟨rfl, HB7.out⟩
end Go.Proofs.Ytpipindifeklbaa
