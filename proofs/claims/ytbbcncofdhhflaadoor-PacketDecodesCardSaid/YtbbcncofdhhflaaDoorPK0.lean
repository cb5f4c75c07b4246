/- Packets plainly: a packet as numbers, whether it may be, its bytes, and the packet that bytes tell; there and back; two hellos, and two packets, compared. No condition. -/
import Derived.Test.YtbbcncofdhhflaaDoorQ6
import Derived.Test.YtbbcncofdhhflaaDoorCP
namespace Go.Proofs.YtbbcncofdhhflaaDoor
open Go.RowKit

/-- A packet as numbers. -/
structure Pkt where
  k : Int
  s : Int
  h : Hel
  b : Int
  d : ByteArray

@[reducible] def pktC (p : Pkt) : List Value := [.int .i64 p.k, .int .u64 p.s, .int .i64 p.h.n, .int .u64 p.h.c, .int .u64 p.h.b, .int .u64 p.h.o, .int .u64 p.h.p, .bool p.h.i, .bool p.h.r, .bool p.h.d, .bool p.h.q, .int .u32 (p.h.m : Int), .int .i64 p.b, .string p.d]
@[reducible] def pktV (p : Pkt) : Value := .agg #[.int .i64 p.k, .int .u64 p.s, .int .i64 p.h.n, .int .u64 p.h.c, .int .u64 p.h.b, .int .u64 p.h.o, .int .u64 p.h.p, .bool p.h.i, .bool p.h.r, .bool p.h.d, .bool p.h.q, .int .u32 (p.h.m : Int), .int .i64 p.b, .string p.d]

def Pkt.zero : Pkt := ⟨0, 0, Hel.zero, 0, ⟨#[]⟩⟩
/-- Its session is a number of eight bytes, and so on. -/
def Pkt.wide (p : Pkt) : Prop := (0 ≤ p.s ∧ p.s < 18446744073709551616) ∧ p.h.wide

/-- Has a kind a block? data? -/
def blockK (k : Int) : Bool := decide (2 ≤ k) && decide (k ≤ 7)
def dataK (k : Int) : Bool := decide (k = 2) || decide (k = 6)

/-- No hello at all. -/
def Hel.none (h : Hel) : Bool := decide (h.n = 0) && (decide (h.c = 0) && (decide (h.b = 0) && (decide (h.o = 0) && decide (h.p = 0))) && (!h.i && (!h.r && (!h.d && (!h.q && decide ((h.m : Int) = 0))))))
theorem Hel.none_iff {h : Hel} : h.none = true ↔ h = Hel.zero := by
  obtain ⟨n, c, b, o, p, i, r, d, q, m⟩ := h
  unfold Hel.none Hel.zero
  simp
  intro _
  constructor
  · rintro ⟨⟨h2, h3, h4, h5⟩, h6, h7, h8, h9, h10⟩
    exact ⟨h2, h3, h4, h5, h6, h7, h8, h9, h10⟩
  · rintro ⟨h2, h3, h4, h5, h6, h7, h8, h9, h10⟩
    exact ⟨⟨h2, h3, h4, h5⟩, h6, h7, h8, h9, h10⟩

/-- May it be? -/
def Pkt.right (p : Pkt) : Bool :=
  (decide (1 ≤ p.k) && decide (p.k ≤ 13)) && ((if p.k = 1 then p.h.right else p.h.none) && ((decide (0 ≤ p.b) && decide (p.b ≤ 31) && (blockK p.k || decide (p.b = 0))) && (if dataK p.k then decide (p.d.size = 8) else decide (p.d.size = 0))))

/-- Its bytes, without the seal. -/
def Pkt.body (p : Pkt) : List UInt8 :=
  [UInt8.ofNat p.k.toNat] ++ be 8 p.s.toNat ++ (if p.k = 1 then p.h.body else []) ++ (if blockK p.k then [UInt8.ofNat p.b.toNat] else []) ++ p.d.data.toList

/-- The packet that bytes would be. -/
def pktOf (l : List UInt8) : Pkt :=
  let k : Int := ((l.getD 0 0).toNat : Int)
  if k = 1 then ⟨k, num8 l 1, (hdec (txt (l.drop 9))).1, 0, ⟨#[]⟩⟩
  else if blockK k && decide (9 < l.length) then ⟨k, num8 l 1, Hel.zero, ((l.getD 9 0).toNat : Int), txt (l.drop 10)⟩
  else ⟨k, num8 l 1, Hel.zero, 0, txt (l.drop 9)⟩

def pformed (l : List UInt8) : Bool := decide (9 ≤ l.length) && ((pktOf l).right && decide ((pktOf l).body = l))
/-- What bytes that aren't sealed tell: the packet, and the number. -/
def pdec (l : List UInt8) : Pkt × Int := if pformed l then (pktOf l, 0) else (Pkt.zero, 2)

theorem Hel.zero_wide : Hel.zero.wide := by unfold Hel.wide Hel.zero; decide
theorem hdec_wide2 (x : ByteArray) : (hdec x).1.wide := by
  by_cases h : (hdec x).2 = 0
  · exact (bytes_hdec x h).2.1
  · rw [hdec_zero x h]; exact Hel.zero_wide
theorem pktOf_wide (l : List UInt8) : (pktOf l).wide := by
  unfold pktOf
  dsimp only
  by_cases h1 : ((l.getD 0 0).toNat : Int) = 1
  · rw [if_pos h1]; exact ⟨num8_range _ _, hdec_wide2 _⟩
  · rw [if_neg h1]
    by_cases h2 : (blockK ((l.getD 0 0).toNat : Int) && decide (9 < l.length)) = true
    · rw [if_pos h2]; exact ⟨num8_range _ _, Hel.zero_wide⟩
    · rw [if_neg h2]; exact ⟨num8_range _ _, Hel.zero_wide⟩

/-- What a packet that may be is made of. -/
theorem Pkt.right_parts {p : Pkt} (h : p.right = true) : (1 ≤ p.k ∧ p.k ≤ 13) ∧ (p.k = 1 → p.h.right = true) ∧ (p.k ≠ 1 → p.h = Hel.zero) ∧ (0 ≤ p.b ∧ p.b ≤ 31) ∧ (blockK p.k = false → p.b = 0) ∧ (dataK p.k = true → p.d.size = 8) ∧ (dataK p.k = false → p.d.size = 0) := by
  unfold Pkt.right at h
  simp only [Bool.and_eq_true, Bool.or_eq_true, decide_eq_true_eq] at h
  obtain ⟨⟨h1, h2⟩, h3, ⟨⟨h4, h5⟩, h6⟩, h7⟩ := h
  refine ⟨⟨h1, h2⟩, fun e => by rw [if_pos e] at h3; exact h3, fun e => by rw [if_neg e] at h3; exact Hel.none_iff.1 h3, ⟨h4, h5⟩, fun e => h6.resolve_left (by rw [e]; simp), fun e => ?_, fun e => ?_⟩
  · rw [e] at h7; simpa using h7
  · rw [e] at h7; simpa using h7

theorem size_zero {d : ByteArray} (h : d.size = 0) : d = ⟨#[]⟩ := by
  obtain ⟨a⟩ := d
  have : a.size = 0 := h
  rw [Array.eq_empty_of_size_eq_zero this]

theorem byte_nat {x : Int} (h0 : 0 ≤ x) (h1 : x < 256) : ((UInt8.ofNat x.toNat).toNat : Int) = x := by
  rw [UInt8.toNat_ofNat', show x.toNat % 2 ^ 8 = x.toNat from by omega]; omega

theorem block_of_one : blockK 1 = false := by decide
theorem data_block {k : Int} (h : dataK k = true) : blockK k = true := by
  unfold dataK at h
  unfold blockK
  simp at h ⊢
  omega

theorem body_front (p : Pkt) : p.body = UInt8.ofNat p.k.toNat :: (be 8 p.s.toNat ++ ((if p.k = 1 then p.h.body else []) ++ ((if blockK p.k then [UInt8.ofNat p.b.toNat] else []) ++ p.d.data.toList))) := by
  unfold Pkt.body
  simp only [List.append_assoc, List.cons_append, List.nil_append]

theorem drop9 (x : UInt8) (n : Nat) (r : List UInt8) : (x :: (be 8 n ++ r)).drop 9 = r := by
  show (be 8 n ++ r).drop 8 = r
  exact List.drop_left' (be_length 8 n)

theorem body_length (p : Pkt) : p.body.length = 9 + (if p.k = 1 then 38 else 0) + (if blockK p.k then 1 else 0) + p.d.size := by
  rw [body_front]
  by_cases h1 : p.k = 1
  · rw [if_pos h1, if_pos h1, h1, block_of_one]
    simp [be_length, hbody_length]
    omega
  · rw [if_neg h1, if_neg h1]
    cases h2 : blockK p.k <;> simp [be_length] <;> omega

/-- The bytes of a packet that may be tell it. -/
theorem pkt_body {p : Pkt} (hw : p.wide) (hr : p.right = true) : pktOf p.body = p := by
  obtain ⟨⟨k0, k1⟩, r1, r2, ⟨b0, b1⟩, r3, r4, r5⟩ := Pkt.right_parts hr
  have hs := num8_at [UInt8.ofNat p.k.toNat] ((if p.k = 1 then p.h.body else []) ++ ((if blockK p.k then [UInt8.ofNat p.b.toNat] else []) ++ p.d.data.toList)) 1 p.s.toNat rfl
  rw [num8_nat p.s hw.1.1 hw.1.2] at hs
  have hk := byte_nat (x := p.k) (by omega) (by omega)
  have hlen := body_length p
  rw [body_front] at hlen ⊢
  unfold pktOf
  rw [drop9]
  rw [show (UInt8.ofNat p.k.toNat :: (be 8 p.s.toNat ++ ((if p.k = 1 then p.h.body else []) ++ ((if blockK p.k then [UInt8.ofNat p.b.toNat] else []) ++ p.d.data.toList)))).getD 0 0 = UInt8.ofNat p.k.toNat from rfl]
  dsimp only
  rw [hk]
  rw [show num8 (UInt8.ofNat p.k.toNat :: (be 8 p.s.toNat ++ ((if p.k = 1 then p.h.body else []) ++ ((if blockK p.k then [UInt8.ofNat p.b.toNat] else []) ++ p.d.data.toList)))) 1 = p.s from hs]
  by_cases h1 : p.k = 1
  · have hb : blockK p.k = false := by rw [h1]; decide
    have hd : dataK p.k = false := by rw [h1]; decide
    have e1 : p.d = ⟨#[]⟩ := size_zero (r5 hd)
    have e2 : p.b = 0 := r3 hb
    rw [if_pos h1, if_pos h1, hb]
    rw [show (if (false : Bool) = true then [UInt8.ofNat p.b.toNat] else []) = [] from rfl]
    rw [show p.h.body ++ ([] ++ p.d.data.toList) = p.h.body from by rw [e1]; simp]
    have := hdec_bytes p.h hw.2 (r1 h1)
    unfold Hel.bytes at this
    rw [this]
    obtain ⟨k, s, h, b, d⟩ := p
    dsimp only at *
    rw [e1, e2]
  · have e3 : p.h = Hel.zero := r2 h1
    rw [if_neg h1]
    rw [if_neg h1] at hlen
    cases hb : blockK p.k with
    | true =>
      rw [hb] at hlen
      have hlt : (9 : Nat) < (UInt8.ofNat p.k.toNat :: (be 8 p.s.toNat ++ ((if p.k = 1 then p.h.body else []) ++ ((if true = true then [UInt8.ofNat p.b.toNat] else []) ++ p.d.data.toList)))).length := by
        rw [if_neg h1] at hlen ⊢
        rw [hlen]
        simp
        omega
      rw [if_pos (by rw [decide_eq_true hlt]; rfl), if_neg h1, if_pos rfl]
      have hg : (UInt8.ofNat p.k.toNat :: (be 8 p.s.toNat ++ ([] ++ ([UInt8.ofNat p.b.toNat] ++ p.d.data.toList)))).getD 9 0 = UInt8.ofNat p.b.toNat := by
        have h9 := drop9 (UInt8.ofNat p.k.toNat) p.s.toNat ([] ++ ([UInt8.ofNat p.b.toNat] ++ p.d.data.toList))
        rw [List.getD_eq_getElem?_getD, ← List.head?_drop, h9]
        rfl
      have hd : (UInt8.ofNat p.k.toNat :: (be 8 p.s.toNat ++ ([] ++ ([UInt8.ofNat p.b.toNat] ++ p.d.data.toList)))).drop 10 = p.d.data.toList := by
        have h9 := drop9 (UInt8.ofNat p.k.toNat) p.s.toNat ([] ++ ([UInt8.ofNat p.b.toNat] ++ p.d.data.toList))
        rw [show (10 : Nat) = 9 + 1 from rfl, ← List.drop_drop, h9]
        rfl
      rw [hg, hd, byte_nat b0 (by omega), txt_of]
      obtain ⟨k, s, h, b, d⟩ := p
      dsimp only at *
      rw [e3]
    | false =>
      have hd : dataK p.k = false := by
        cases q : dataK p.k with
        | false => rfl
        | true => rw [data_block q] at hb; cases hb
      have e1 : p.d = ⟨#[]⟩ := size_zero (r5 hd)
      have e2 : p.b = 0 := r3 hb
      rw [show (false && decide (9 < (UInt8.ofNat p.k.toNat :: (be 8 p.s.toNat ++ ((if p.k = 1 then p.h.body else []) ++ ((if (false : Bool) = true then [UInt8.ofNat p.b.toNat] else []) ++ p.d.data.toList)))).length)) = false from rfl]
      rw [if_neg (by simp), if_neg h1]
      rw [show (if (false : Bool) = true then [UInt8.ofNat p.b.toNat] else []) = [] from rfl]
      rw [show ([] ++ ([] ++ p.d.data.toList) : List UInt8) = p.d.data.toList from by simp, txt_of]
      obtain ⟨k, s, h, b, d⟩ := p
      dsimp only at *
      rw [e2, e3]

theorem pformed_body {p : Pkt} (hw : p.wide) (hr : p.right = true) : pformed p.body = true := by
  unfold pformed
  rw [pkt_body hw hr, hr]
  have := body_length p
  simp
  omega

/-- There and back. -/
theorem pdec_body {p : Pkt} (hw : p.wide) (hr : p.right = true) : pdec p.body = (p, 0) := by
  unfold pdec
  rw [pformed_body hw hr, if_pos rfl, pkt_body hw hr]
theorem body_pdec {l : List UInt8} (h : (pdec l).2 = 0) : (pdec l).1.right = true ∧ (pdec l).1.wide ∧ (pdec l).1.body = l := by
  unfold pdec at *
  by_cases hf : pformed l = true
  · rw [if_pos hf] at *
    unfold pformed at hf
    simp only [Bool.and_eq_true, decide_eq_true_eq] at hf
    exact ⟨hf.2.1, pktOf_wide _, hf.2.2⟩
  · rw [if_neg hf] at h
    cases h
theorem pdec_zero {l : List UInt8} (h : (pdec l).2 ≠ 0) : pdec l = (Pkt.zero, 2) := by
  unfold pdec at *
  by_cases hf : pformed l = true
  · rw [if_pos hf] at h; exact absurd rfl h
  · rw [if_neg hf]
/-- Whatever isn't the bytes of a packet that may be is refused. -/
theorem pdec_not {l : List UInt8} (h : ∀ p : Pkt, p.wide → p.right = true → p.body ≠ l) : pdec l = (Pkt.zero, 2) := by
  refine pdec_zero fun e => ?_
  obtain ⟨h1, h2, h3⟩ := body_pdec e
  exact h _ h2 h1 h3

/-- What Encode answers: the bytes, or none, and the number. -/
def Pkt.encT (p : Pkt) : ByteArray := if p.right = true then txt (sealed p.body) else ⟨#[]⟩
def Pkt.encE (p : Pkt) : Int := if p.right = true then 0 else 1
/-- What Decode answers. -/
def decP (s : ByteArray) : Pkt × Int := if openE s = 0 then pdec (openT s).data.toList else (Pkt.zero, openE s)
/-- What Read answers. -/
def readP (s : ByteArray) (n : Int) : Pkt × Int := if (decP s).2 = 0 then (if (decP s).1.s = n then decP s else (Pkt.zero, 16)) else (Pkt.zero, (decP s).2)

theorem decP_encT {p : Pkt} (hw : p.wide) (hr : p.right = true) : decP p.encT = (p, 0) := by
  unfold decP Pkt.encT
  rw [if_pos hr]
  obtain ⟨h1, h2⟩ := open_sealed p.body
  rw [h1, if_pos rfl, h2, txt_data, pdec_body hw hr]
theorem encT_decP {s : ByteArray} (h : (decP s).2 = 0) : (decP s).1.right = true ∧ (decP s).1.wide ∧ (decP s).1.encT = s := by
  unfold decP at *
  by_cases h0 : openE s = 0
  · rw [if_pos h0] at *
    obtain ⟨h1, h2, h3⟩ := body_pdec h
    refine ⟨h1, h2, ?_⟩
    unfold Pkt.encT
    rw [if_pos h1, h3]
    exact sealed_open s h0
  · rw [if_neg h0] at h
    exact absurd h h0
theorem decP_zero {s : ByteArray} (h : (decP s).2 ≠ 0) : (decP s).1 = Pkt.zero := by
  unfold decP at *
  by_cases h0 : openE s = 0
  · rw [if_pos h0] at *
    rw [pdec_zero h]
  · rw [if_neg h0]
end Go.Proofs.YtbbcncofdhhflaaDoor
