/- Numbers as bytes: what each function that lays or reads them answers, for every argument within its type; no other condition. -/
import Derived.Test.YtjdcpcfjekfdeaaBase
import Derived.Test.YtjdcpcfjekfdeaaNum
import Derived.Laws.BytesArg
namespace Go.Proofs.Ytjdcpcfjekfdeaa
open Go.RowKit

theorem four_str (n : Nat) (a b c d : Int) (ha : a.toNat = n / 16777216) (hb : b.toNat = n / 65536 % 256) (hc : c.toNat = n / 256 % 256) (hd : d.toNat = n % 256) :
    strOfNums [a, b, c, d] = ⟨(be 4 n).toArray⟩ := by
  simp only [strOfNums, List.map_cons, List.map_nil, ha, hb, hc, hd, ofNat_mod]
  simp only [be, Nat.div_div_eq_div_mul, List.nil_append, List.cons_append]

theorem join_str (l r : List UInt8) : (⟨l.toArray⟩ : ByteArray) ++ ⟨r.toArray⟩ = ⟨(l ++ r).toArray⟩ := by
  apply ByteArray.ext
  simp

theorem join8 (n : Nat) (a b : Nat) (ha : a = n / 4294967296) (hb : b = n % 4294967296) : be 4 a ++ be 4 b = be 8 n := by
  subst ha; subst hb
  rw [show (4294967296 : Nat) = 256 ^ 4 from rfl, be_mod, ← be_add]

theorem byte_lt (c : UInt8) : (c.toNat : Int) < 256 := by have := UInt8.toNat_lt c; omega

theorem or4 (a b c d : Nat) (ha : a < 256) (hb : b < 256) (hc : c < 256) (hd : d < 256) :
    bits .or .u32 (bits .or .u32 (bits .or .u32 ((a : Int) % 4294967296 * 16777216 % 4294967296) ((b : Int) % 4294967296 * 65536 % 4294967296)) ((c : Int) % 4294967296 * 256 % 4294967296)) ((d : Int) % 4294967296) = ((((a * 256 + b) * 256 + c) * 256 + d : Nat) : Int) := by
  rw [show ((a : Int) % 4294967296 * 16777216 % 4294967296) = ((a * 16777216 : Nat) : Int) from by omega, show ((b : Int) % 4294967296 * 65536 % 4294967296) = ((b * 65536 : Nat) : Int) from by omega,
    show ((c : Int) % 4294967296 * 256 % 4294967296) = ((c * 256 : Nat) : Int) from by omega, show ((d : Int) % 4294967296) = ((d : Nat) : Int) from by omega]
  rw [u32_or_nat _ _ (by omega) (by omega), nat_join 24 (a * 16777216) (b * 65536) (by omega) (by omega)]
  rw [u32_or_nat _ _ (by omega) (by omega), nat_join 16 (a * 16777216 + b * 65536) (c * 256) (by omega) (by omega)]
  rw [u32_or_nat _ _ (by omega) (by omega), nat_join 8 (a * 16777216 + b * 65536 + c * 256) d (by omega) (by omega)]
  omega

theorem val4 (s : ByteArray) (h : s.size = 4) : val s.data.toList = ((s[0].toNat * 256 + s[1].toNat) * 256 + s[2].toNat) * 256 + s[3].toNat := by
  obtain ⟨⟨l⟩⟩ := s
  simp [ByteArray.size] at h
  match l, h with
  | [a, b, c, d], _ => simp [val]; rfl

theorem or8 (a b : Nat) (ha : a < 4294967296) (hb : b < 4294967296) :
    bits .or .u64 (IntKind.u64.wrap (IntKind.u64.wrap (a : Int) * 4294967296)) (IntKind.u64.wrap (b : Int)) = ((a * 4294967296 + b : Nat) : Int) := by
  rw [IntWalk.u64_in (a : Int) (by omega), IntWalk.u64_in (b : Int) (by omega), IntWalk.u64_in ((a : Int) * 4294967296) (by omega), show ((a : Int) * 4294967296) = ((a * 4294967296 : Nat) : Int) from by omega]
  rw [u64_or_nat _ _ (by omega) (by omega), nat_join 32 (a * 4294967296) b (by omega) (by omega)]

theorem val8 (s : ByteArray) (h : s.size = 8) (a b : Nat) (ha : a = val (List.take 4 s.data.toList)) (hb : b = val (List.take (s.size - 4) (List.drop 4 s.data.toList))) :
    bits .or .u64 (IntKind.u64.wrap (IntKind.u64.wrap (a : Int) * 4294967296)) (IntKind.u64.wrap (b : Int)) = (val s.data.toList : Int) := by
  have hl : s.data.toList.length = 8 := by rw [Array.length_toList]; exact h
  have e : List.take (s.size - 4) (List.drop 4 s.data.toList) = List.drop 4 s.data.toList := List.take_of_length_le (by rw [List.length_drop, hl, h]; decide)
  rw [e] at hb
  have h1 := val_lt (List.take 4 s.data.toList)
  have h2 := val_lt (List.drop 4 s.data.toList)
  rw [List.length_take, hl] at h1
  rw [List.length_drop, hl] at h2
  have h3 := val_append (List.take 4 s.data.toList) (List.drop 4 s.data.toList)
  rw [List.take_append_drop, List.length_drop, hl, show 256 ^ (8 - 4) = 4294967296 from by decide] at h3
  have h4 := Nat.lt_of_lt_of_le h1 (show 256 ^ min 4 8 ≤ 4294967296 from by decide)
  have h5 := Nat.lt_of_lt_of_le h2 (show 256 ^ (8 - 4) ≤ 4294967296 from by decide)
  rw [or8 a b (by omega) (by omega), h3, ha, hb]

theorem val_take (s : ByteArray) (k : Nat) (h : k < s.size) : val (s.data.toList.take (k + 1)) = val (s.data.toList.take k) * 256 + s[k].toNat := by
  rw [List.take_succ_eq_append_getElem (by simpa using h), val_snoc]; rfl

theorem pow_le8 (k : Nat) (h : k < 8) : 256 ^ k ≤ 72057594037927936 := by
  have : 256 ^ k ≤ 256 ^ 7 := Nat.pow_le_pow_right (by decide) (by omega)
  simpa using this
end Go.Proofs.Ytjdcpcfjekfdeaa
