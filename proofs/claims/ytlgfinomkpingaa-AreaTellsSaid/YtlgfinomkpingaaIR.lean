/- strings.Repeat of a zero byte, eight times: the library's contract, laid at this program (no walk). No condition. -/
import Derived.Test.YtlgfinomkpingaaBase
import Derived.Shelf.Strings.Repeat
import Derived.Test.YtlgfinomkpingaaI1
import Derived.Test.YtlgfinomkpingaaS1
namespace Go.Proofs.Ytlgfinomkpingaa
open Go.Shelf Go.RowKit

def rpRen : Go.Shelf.Ren := ⟨fun | 105 => 39 | 212 => 60 | 99 => 61 | 165 => 62 | 166 => 63 | 170 => 64 | 169 => 65 | 263 => 84 | 264 => 85 | 206 => 86 | 240 => 87 | 241 => 88 | 276 => 95 | 277 => 96 | n => n, fun | 9 => 9 | 3 => 3 | 4 => 4 | 20 => 20 | 0 => 0 | 46 => 85 | 109 => 86 | 5 => 5 | 72 => 92 | 76 => 96 | 51 => 55 | 146 => 116 | 53 => 38 | 148 => 118 | 70 => 89 | 37 => 90 | 75 => 95 | 127 => 120 | 164 => 124 | 80 => 58 | n => n, fun | n => n⟩
theorem rpLays : Go.Proofs.Lays.n105 Try.prog rpRen := {
  mixed := by kernel_rfl
  f99 := Try.func61.trans (congrArg some (by kernel_rfl))
  f105 := Try.func39.trans (congrArg some (by kernel_rfl))
  f165 := Try.func62.trans (congrArg some (by kernel_rfl))
  f166 := Try.func63.trans (congrArg some (by kernel_rfl))
  f169 := Try.func65.trans (congrArg some (by kernel_rfl))
  f170 := Try.func64.trans (congrArg some (by kernel_rfl))
  f206 := Try.func86.trans (congrArg some (by kernel_rfl))
  f212 := Try.func60.trans (congrArg some (by kernel_rfl))
  f240 := Try.func87.trans (congrArg some (by kernel_rfl))
  f241 := Try.func88.trans (congrArg some (by kernel_rfl))
  f263 := Try.func84.trans (congrArg some (by kernel_rfl))
  f264 := Try.func85.trans (congrArg some (by kernel_rfl))
  f276 := Try.func95.trans (congrArg some (by kernel_rfl))
  f277 := Try.func96.trans (congrArg some (by kernel_rfl))
  t0 := Try.underlying0
  a0 := Try.isAgg0
  z0 := Try.sizeOf0
  v0 := Try.zeroValue0
  t3 := Try.underlying3
  a3 := Try.isAgg3
  z3 := Try.sizeOf3
  v3 := Try.zeroValue3
  t4 := Try.underlying4
  a4 := Try.isAgg4
  z4 := Try.sizeOf4
  v4 := Try.zeroValue4
  t5 := Try.underlying5
  a5 := Try.isAgg5
  z5 := Try.sizeOf5
  v5 := Try.zeroValue5
  t9 := Try.underlying9
  a9 := Try.isAgg9
  z9 := Try.sizeOf9
  v9 := Try.zeroValue9
  t20 := Try.underlying20
  a20 := Try.isAgg20
  z20 := Try.sizeOf20
  v20 := Try.zeroValue20
  t37 := Try.underlying90
  a37 := Try.isAgg90
  z37 := Try.sizeOf90
  v37 := Try.zeroValue90
  t46 := Try.underlying85
  a46 := Try.isAgg85
  z46 := Try.sizeOf85
  v46 := Try.zeroValue85
  t51 := Try.underlying55
  a51 := Try.isAgg55
  z51 := Try.sizeOf55
  v51 := Try.zeroValue55
  t53 := Try.underlying38
  a53 := Try.isAgg38
  z53 := Try.sizeOf38
  v53 := Try.zeroValue38
  t70 := Try.underlying89
  a70 := Try.isAgg89
  z70 := Try.sizeOf89
  v70 := Try.zeroValue89
  t72 := Try.underlying92
  a72 := Try.isAgg92
  z72 := Try.sizeOf92
  v72 := Try.zeroValue92
  t75 := Try.underlying95
  a75 := Try.isAgg95
  z75 := Try.sizeOf95
  v75 := Try.zeroValue95
  t76 := Try.underlying96
  a76 := Try.isAgg96
  z76 := Try.sizeOf96
  v76 := Try.zeroValue96
  t109 := Try.underlying86
  a109 := Try.isAgg86
  z109 := Try.sizeOf86
  v109 := Try.zeroValue86
  t127 := Try.underlying120
  a127 := Try.isAgg120
  z127 := Try.sizeOf120
  v127 := Try.zeroValue120
  t146 := Try.underlying116
  a146 := Try.isAgg116
  z146 := Try.sizeOf116
  v146 := Try.zeroValue116
  t148 := Try.underlying118
  a148 := Try.isAgg118
  z148 := Try.sizeOf118
  v148 := Try.zeroValue118
  t164 := Try.underlying124
  a164 := Try.isAgg124
  z164 := Try.sizeOf124
  v164 := Try.zeroValue124 }
theorem rpExtra : Builder.Extra Try.prog rpRen := {
  sizeBuilder := by kernel_rfl
  liesBuilder := by kernel_rfl
  t5 := Try.underlying5
  a5 := Try.isAgg5
  z5 := Try.sizeOf5
  v5 := Try.zeroValue5
  infoByte := by kernel_rfl
  cellsByte := by kernel_rfl
  sizeByte := by kernel_rfl
  neB5 := by decide }

theorem rpAt : rpRen.f 105 = 39 := by kernel_rfl

theorem repeat_z8 (w : World) : Calls Try.prog 39 #[.string ⟨#[0]⟩, .int .i64 8] w fun e w' => e = .returned (.string ⟨#[0, 0, 0, 0, 0, 0, 0, 0]⟩) ∧ Below w.heap.size w w' := by
  have h := Any.strings_Repeat rpLays rpExtra ⟨#[0]⟩ 8 w (by decide) (by decide)
  rw [rpAt] at h
  exact h

end Go.Proofs.Ytlgfinomkpingaa

/- Blocks on a disk, layer 9: formatting one by the code, over what the calls that it makes answer. No other condition. -/

namespace Go.Proofs.Ytlgfinomkpingaa
open Go.RowKit

set_option maxRecDepth 100000 in
set_option maxHeartbeats 4000000 in
theorem afmt_no (k g : Int) (w : World) (hq : ∀ v, Calls Try.prog 35 #[supV ⟨k, g, 0, 0, 0, false, false, false⟩] v fun e v' => e = .returned (.bool false) ∧ Below v.heap.size v v') :
    Calls Try.prog 17 #[.int .i64 k, .int .u64 g] w (GivesD [] [] 0 false 1 w) := by
  have HQ := Lib.hid hq; clear hq
  have H0 := Lib.hid (((Held.refl w).own [.slice none 0 0, .slice none 0 0, .int .i64 0, .bool false] 25 (n := 4) rfl).lay (supC ⟨k, g, 0, 0, 0, false, false, false⟩) 52)
  have BR0 := Lib.hid ((Box.new w [.slice none 0 0, .slice none 0 0, .int .i64 0, .bool false] 25).alloc (.cells (supC ⟨k, g, 0, 0, 0, false, false, false⟩).toArray 52))
  go_enter Try.func17, Try.ntmps17
  have k6 := H0.out.b0.cell
  simp only [World.size_alloc] at k6
  go_wp2_with fail
  refine (HQ.out _).mono ?_
  rintro e w1 ⟨rfl, hb⟩
  have H1 := Lib.hid (H0.out.up hb)
  have BR1 := Lib.hid (BR0.out.below hb)
  clear hb H0 BR0 k6
  have kr := BR1.out.cell
  have fr := BR1.out.frozen
  go_wp2_with fail
  refine bodyPost_ret (v := .tuple #[.agg #[.slice none 0 0, .slice none 0 0, .int .i64 0, .bool false], .int .i64 1]) (by simp [results, Try.results17, go_sem, kr]) rfl ⟨none, none, 0, 0, rfl, mem_nil _, ?_⟩
  exact (H1.out.set4 (b := w.heap.size) ⟨4, by simp⟩ _ _ _ _).below

set_option maxRecDepth 100000 in
set_option maxHeartbeats 8000000 in
theorem afmt_go (N L : Nat) (g : Int) (w : World) (hN : N ≤ 1000) (s0 s1 : List ByteArray) (fm : Nat → List ByteArray) (er : Nat → Int) (h0 : s0.length = L) (h1 : s1.length = L) (h2 : ∀ k, (fm k).length = L)
    (hq : ∀ v, Calls Try.prog 35 #[supV ⟨(N : Nat), g, 0, 0, 0, false, false, false⟩] v fun e v' => e = .returned (.bool true) ∧ Below v.heap.size v v')
    (hw : ∀ v, Calls Try.prog 36 #[.int .i64 ((N : Int) + 2)] v (GivesD s0 [] 0 false 0 v))
    (hc : ∀ (A B : Option Addr) (n m : Nat) (v : World), Mem v A n B m s0 [] → Calls Try.prog 37 #[.agg #[.slice A L n, .slice B 0 m, .int .i64 0, .bool false], supV ⟨(N : Nat), g, 0, 0, 0, false, false, false⟩] v (GivesD s1 [] 0 false 0 v))
    (hs : ∀ (A B : Option Addr) (n m : Nat) (v : World), Mem v A n B m s1 [] → Calls Try.prog 38 #[.agg #[.slice A L n, .slice B 0 m, .int .i64 0, .bool false], .int .u32 0] v (GivesD (fm 0) [] 0 false 0 v))
    (hr : ∀ v, Calls Try.prog 39 #[.string ⟨#[0]⟩, .int .i64 8] v fun e v' => e = .returned (.string z8) ∧ Below v.heap.size v v')
    (hp : ∀ (k : Nat), k < N → ∀ (A B : Option Addr) (n m : Nat) (v : World), Mem v A n B m (fm k) [] → Calls Try.prog 11 #[.agg #[.slice A L n, .slice B 0 m, .int .i64 0, .bool false], .int .i64 (k : Nat), .string z8] v (GivesD (fm (k + 1)) [] 0 false (er k) v)) :
    Calls Try.prog 17 #[.int .i64 (N : Nat), .int .u64 g] w (GivesD (fm N) [] 0 false 0 w) := by
  have hz : z8 = ⟨#[0, 0, 0, 0, 0, 0, 0, 0]⟩ := rfl
  clear hz
  have HQ := Lib.hid hq; clear hq
  have HW := Lib.hid hw; clear hw
  have HC := Lib.hid hc; clear hc
  have HS := Lib.hid hs; clear hs
  have HR := Lib.hid hr; clear hr
  have HP := Lib.hid hp; clear hp
  have L0 := Lib.hid h0; clear h0
  have L1 := Lib.hid h1; clear h1
  have L2 := Lib.hid h2; clear h2
  have H0 := Lib.hid (((Held.refl w).own [.slice none 0 0, .slice none 0 0, .int .i64 0, .bool false] 25 (n := 4) rfl).lay (supC ⟨(N : Nat), g, 0, 0, 0, false, false, false⟩) 52)
  have BR0 := Lib.hid ((Box.new w [.slice none 0 0, .slice none 0 0, .int .i64 0, .bool false] 25).alloc (.cells (supC ⟨(N : Nat), g, 0, 0, 0, false, false, false⟩).toArray 52))
  go_enter Try.func17, Try.ntmps17
  have k6 := H0.out.b0.cell
  simp only [World.size_alloc] at k6
  go_wp2_with fail
  refine (HQ.out _).mono ?_
  rintro e w1 ⟨rfl, hb⟩
  have H1 := Lib.hid (H0.out.up hb)
  have BR1 := Lib.hid (BR0.out.below hb)
  clear hb H0 BR0 k6
  go_wp2_with fail
  refine (HW.out _).mono ?_
  rintro e w2 ⟨A1, B1, n1, m1, rfl, hm, hb⟩
  rw [L0.out]
  have hlt := H1.out.boxs.hd.lt
  have hlt2 := hb.size
  have H2 := Lib.hid ((H1.out.up hb).own [.slice A1 L n1, .slice B1 0 m1, .int .i64 0, .bool false] 25 (n := 4) rfl)
  have BD2 := Lib.hid (Box.new w2 [.slice A1 L n1, .slice B1 0 m1, .int .i64 0, .bool false] 25)
  have BR2 := Lib.hid ((BR1.out.below hb).alloc (.cells #[.slice A1 L n1, .slice B1 0 m1, .int .i64 0, .bool false] 25))
  have HM2 := Lib.hid (hm.up (below1 (o := .cells #[.slice A1 L n1, .slice B1 0 m1, .int .i64 0, .bool false] 25)))
  clear hm hb H1 BR1 HW HQ
  simp only [World.size_alloc] at hlt
  obtain ⟨p, hp⟩ : ∃ p, w2.heap.size = p := ⟨_, rfl⟩
  have HPW := Lib.hid (show w.heap.size + 2 ≤ p by omega)
  clear hlt hlt2
  rw [hp] at H2 BD2
  have kd := BD2.out.cell
  have fd := BD2.out.frozen
  have k6 := H2.out.b0.cell
  simp only [World.size_alloc] at k6
  go_wp2_with fail
  refine (HC.out A1 B1 n1 m1 _ HM2.out).mono ?_
  rintro e w4 ⟨A3, B3, n3, m3, rfl, hm, hb⟩
  rw [L1.out]
  have H4 := Lib.hid (H2.out.up hb)
  have BD4 := Lib.hid (BD2.out.below hb)
  have BR4 := Lib.hid (BR2.out.below hb)
  have HM4 := Lib.hid hm
  clear hm hb H2 BD2 BR2 HM2 kd fd k6 hp HC
  have kd := BD4.out.cell
  have fd := BD4.out.frozen
  go_wp2_with fail
  have H5 := Lib.hid ((H4.out.set4 (b := p) ⟨4, by simp⟩ (.slice A3 L n3) (.slice B3 0 m3) (.int .i64 0) (.bool false)).less)
  have BD5 := Lib.hid (BD4.out.four (.slice A3 L n3) (.slice B3 0 m3) (.int .i64 0) (.bool false))
  have BR5 := Lib.hid (BR4.out.past4 (b := p) (by have := HPW.out; omega) (.slice A3 L n3) (.slice B3 0 m3) (.int .i64 0) (.bool false))
  have hm5 := HM4.out.four BD4.out A3 B3 L n3 0 m3 0 false
  have HM5 := Lib.hid hm5
  clear hm5 H4 BD4 BR4 HM4 kd fd
  refine (HS.out A3 B3 n3 m3 _ HM5.out).mono ?_
  rintro e w6 ⟨A4, B4, n4, m4, rfl, hm, hb⟩
  rw [L2.out]
  have H6 := Lib.hid (H5.out.up hb)
  have BD6 := Lib.hid (BD5.out.below hb)
  have BR6 := Lib.hid (BR5.out.below hb)
  have HM6 := Lib.hid hm
  clear hm hb H5 BD5 BR5 HM5 HS
  have kd := BD6.out.cell
  have fd := BD6.out.frozen
  go_wp2_with fail
  have H7 := Lib.hid (H6.out.set4 (b := p) ⟨4, by simp⟩ (.slice A4 L n4) (.slice B4 0 m4) (.int .i64 0) (.bool false))
  have BD7 := Lib.hid (BD6.out.four (.slice A4 L n4) (.slice B4 0 m4) (.int .i64 0) (.bool false))
  have BR7 := Lib.hid (BR6.out.past4 (b := p) (by have := HPW.out; omega) (.slice A4 L n4) (.slice B4 0 m4) (.int .i64 0) (.bool false))
  have HM7 := Lib.hid (HM6.out.four BD6.out A4 B4 L n4 0 m4 0 false)
  clear H6 BD6 BR6 HM6 kd fd
  refine (HR.out _).mono ?_
  rintro e w8 ⟨rfl, hb⟩
  have H8 := Lib.hid (H7.out.up hb)
  have BD8 := Lib.hid (BD7.out.below hb)
  have BR8 := Lib.hid (BR7.out.below hb)
  have HM8 := Lib.hid (HM7.out.up hb)
  clear hb H7 BD7 BR7 HM7 HR
  go_wp2_with fail
  go_loopw [10, 38] (fun _ j wr => ∃ (k : Nat) (A B : Option Addr) (n m : Nat), k ≤ N ∧ j = .int .i64 k ∧ Hid (Held w [] [(p, 4), (w.heap.size, 4)] wr) ∧ Hid (Box wr p [.slice A L n, .slice B 0 m, .int .i64 0, .bool false]) ∧ Hid (Box wr w.heap.size [.slice none 0 0, .slice none 0 0, .int .i64 0, .bool false]) ∧ Hid (Mem wr A n B m (fm k) [])) (fun _ j _ => N - (intOf j).toNat)
  case atStart => exact ⟨0, A4, B4, n4, m4, by omega, rfl, H8.out, BD8.out, BR8.out, HM8.out⟩
  case round =>
    obtain ⟨k, A, B, n, m, hk, rfl, H9, BD9, BR9, HM9⟩ := hrel
    have kd := BD9.out.cell
    have fd := BD9.out.frozen
    by_cases hlt : k < N
    · go_wp2_with fail
      refine (HP.out k hlt A B n m _ HM9.out).mono ?_
      rintro e w10 ⟨A5, B5, n5, m5, rfl, hm, hb⟩
      rw [L2.out]
      have H10 := Lib.hid (H9.out.up hb)
      have BD10 := Lib.hid (BD9.out.below hb)
      have BR10 := Lib.hid (BR9.out.below hb)
      have HM10 := Lib.hid hm
      clear hm hb kd fd
      have kd := BD10.out.cell
      have fd := BD10.out.frozen
      go_wp2
      go_roundw
      case rel => exact ⟨k + 1, A5, B5, n5, m5, by omega, by go_num, H10.out.set4 (b := p) ⟨4, by simp⟩ _ _ _ _, BD10.out.four _ _ _ _, BR10.out.past4 (b := p) (by have := HPW.out; omega) _ _ _ _, HM10.out.four BD10.out _ _ _ _ _ _ _ _⟩
      case measure => simp [intOf]; omega
    · obtain rfl : k = N := by omega
      have kr := BR9.out.cell
      have fr := BR9.out.frozen
      go_wp2_with fail
      refine bodyPost_ret (v := .tuple #[.agg #[.slice A L n, .slice B 0 m, .int .i64 0, .bool false], .int .i64 0]) (by simp [results, Try.results17, go_sem, kr]) rfl ⟨A, B, n, m, by rw [L2.out]; rfl, ?_, ?_⟩
      · exact HM9.out.four BR9.out _ _ _ _ _ _ _ _
      · exact (H9.out.set4 (b := w.heap.size) ⟨4, by simp⟩ _ _ _ _).below

end Go.Proofs.Ytlgfinomkpingaa
