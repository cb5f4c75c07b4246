/- Links: what Open and Close of the document answer, in one form. No condition. -/
import Derived.Test.YtbjbdlgbppanmaaYD
namespace Go.Proofs.Ytbjbdlgbppanmaa
open Go.RowKit

theorem lk_empty (w : World) (u : Bool) (s : Int) : Lk w ⟨u, s, [], []⟩ none 0 none 0 := ⟨es_nil _ _ _ _, es_nil _ _ _ _, fun _ => rfl, fun _ => rfl, Nat.le_refl _, Nat.le_refl _⟩
theorem rkopenG_any (x : Lnk) (A B : Option Addr) (n m : Nat) (w : World) : Calls Try.prog 14 #[lkV x A n B m] w (GivesK x.opened id w) :=
  (rkopen_any x.u x.s x.a x.b A B n m w).mono fun _ _ h => ⟨none, 0, none, 0, h.1, lk_empty _ _ _, h.2⟩
theorem rkcloseG_any (x : Lnk) (A B : Option Addr) (n m : Nat) (w : World) : Calls Try.prog 16 #[lkV x A n B m] w (GivesK x.closed id w) :=
  (rkclose_any x.u x.s x.a x.b A B n m w).mono fun _ _ h => ⟨none, 0, none, 0, h.1, lk_empty _ _ _, h.2⟩
theorem rkidleG_any (x : Lnk) (A B : Option Addr) (n m : Nat) (w : World) (hl : x.a.length ≤ 100000) (hl2 : x.b.length ≤ 100000) : Calls Try.prog 18 #[lkV x A n B m] w fun e w' => e = .returned (.bool x.idle) ∧ Below w.heap.size w w' :=
  rkidle_any x.u x.s x.a x.b A B n m w (by omega) (by omega)
theorem rkgreatG_any (x : Lnk) (A B : Option Addr) (n m : Nat) (w : World) : Calls Try.prog 7 #[lkV x A n B m] w fun e w' => e = .returned (.bool x.great) ∧ Below w.heap.size w w' :=
  rkgreat_any x.u x.s x.a x.b A B n m w
theorem rksameG_any (x : Lnk) (A B : Option Addr) (n m : Nat) (y : Lnk) (C D : Option Addr) (k l : Nat) (w : World) (hx : Lk w x A n B m) (hy : Lk w y C k D l) (hl : x.a.length ≤ 100000) (hl2 : x.b.length ≤ 100000) : Calls Try.prog 12 #[lkV x A n B m, lkV y C k D l] w fun e w' => e = .returned (.bool (x.same y)) ∧ Below w.heap.size w w' :=
  rksame_any x.u x.s x.a x.b A B n m y.u y.s y.a y.b C D k l w hx hy (by omega) (by omega)

theorem Lnk.same_self (x : Lnk) : x.same x = true := by unfold Lnk.same; simp
end Go.Proofs.Ytbjbdlgbppanmaa
