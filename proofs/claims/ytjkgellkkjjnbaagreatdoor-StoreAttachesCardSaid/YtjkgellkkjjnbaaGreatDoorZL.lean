/- Stores: what the code's calls answer of a store as one thing. For every disk within what they ask. -/
import Derived.Test.YtjkgellkkjjnbaaGreatDoorZG3
namespace Go.Proofs.YtjkgellkkjjnbaaGreatDoor
open Go.RowKit

theorem zattach_whole {N : Nat} {t : Sto} (hW : Whole N t) (A B : Option Addr) (n m : Nat) (w : World) (hm : Mem w A n B m t.s t.c) (hF : Fit t.s t.c t.f) (a : Addr) (hg : Glob w a) : Calls Tryz.prog 10 #[.agg #[.slice A t.s.length n, .slice B t.c.length m, .int .i64 t.f, .bool false]] w (GivesS t 0 w) := by
  have h := zattach_any A B n m t.s t.c t.f false w hm hF a hg
  rw [whole_attE hW, whole_att hW] at h
  exact h
theorem zmark_of (t : Sto) (A B : Option Addr) (n m : Nat) (i : Int) (w : World) (hm : Mem w A n B m t.s t.c) (hF : Fit t.s t.c t.f) (hk : t.m < 4294967296) : Calls Tryz.prog 22 #[toV t A n B m, .int .i64 i] w (GivesS (t.mark i).1 (t.mark i).2 w) := zmark_any A B n m t.s t.c t.f t.x t.b t.m i w hm hF hk
theorem zwipe_of (t : Sto) (A B : Option Addr) (n m : Nat) (i : Int) (w : World) (hm : Mem w A n B m t.s t.c) (hF : Fit t.s t.c t.f) (hk : t.m < 4294967296) : Calls Tryz.prog 23 #[toV t A n B m, .int .i64 i] w (GivesS (t.wipe i).1 (t.wipe i).2 w) := zwipe_any A B n m t.s t.c t.f t.x t.b t.m i w hm hF hk
theorem zjoin_of (t : Sto) (A B : Option Addr) (n m : Nat) (k : Nat) (w : World) (hm : Mem w A n B m t.s t.c) (hF : Fit t.s t.c t.f) (hk : t.m < 4294967296) (hk2 : k < 4294967296) : Calls Tryz.prog 27 #[toV t A n B m, .int .u32 k] w (GivesS (t.join k).1 (t.join k).2 w) := zjoin_any A B n m t.s t.c t.f t.x t.b t.m k w hm hF hk hk2
theorem zput_of (t : Sto) (A B : Option Addr) (n m : Nat) (i : Int) (d : ByteArray) (w : World) (hm : Mem w A n B m t.s t.c) (hF : Fit t.s t.c t.f) : Calls Tryz.prog 24 #[toV t A n B m, .int .i64 i, .string d] w (GivesS (t.put i d).1 (t.put i d).2 w) := zput_any A B n m t.s t.c t.f t.x t.b t.m i d w hm hF
theorem zcommit_of (t : Sto) (A B : Option Addr) (n m : Nat) (q : Sup) (w : World) (hm : Mem w A n B m t.s t.c) (hF : Fit t.s t.c t.f) (hw : q.wide) : Calls Tryz.prog 26 #[toV t A n B m, supV q] w (GivesS (t.commit q).1 (t.commit q).2 w) := zcommit_any A B n m t.s t.c t.f t.x t.b t.m q w hm hF hw
theorem zread_of (t : Sto) (A B : Option Addr) (n m : Nat) (i : Int) (w : World) (hm : Mem w A n B m t.s t.c) (hF : Fit t.s t.c t.f) : Calls Tryz.prog 25 #[toV t A n B m, .int .i64 i] w fun e w' => e = .returned (.tuple #[.string (t.read i).1, .int .i64 (t.read i).2]) ∧ Below w.heap.size w w' := zread_any A B n m t.s t.c t.f t.x t.b t.m i w hm hF
theorem zsame_of (t u : Sto) (A B : Option Addr) (n m : Nat) (A2 B2 : Option Addr) (n2 m2 : Nat) (w : World) (hm : Mem w A n B m t.s t.c) (hm2 : Mem w A2 n2 B2 m2 u.s u.c) (hF : Fit t.s t.c t.f) (hF2 : Fit u.s u.c u.f) : Calls Tryz.prog 13 #[toV t A n B m, toV u A2 n2 B2 m2] w fun e w' => e = .returned (.bool (t.same u)) ∧ Below w.heap.size w w' :=
  zsame_any A B n m t.s t.c t.f t.x t.b t.m A2 B2 n2 m2 u.s u.c u.f u.x u.b u.m w hm hm2 (by have := hF.l64; omega) (by have := hF2.l64; omega) (by have := hF.c9; omega) (by have := hF2.c9; omega)
theorem rzsame_of (t u : Sto) (A B : Option Addr) (n m : Nat) (A2 B2 : Option Addr) (n2 m2 : Nat) (w : World) (hm : Mem w A n B m t.s t.c) (hm2 : Mem w A2 n2 B2 m2 u.s u.c) (hF : Fit t.s t.c t.f) (hF2 : Fit u.s u.c u.f) : Calls Tryz.prog 12 #[toV t A n B m, toV u A2 n2 B2 m2] w fun e w' => e = .returned (.bool (t.same u)) ∧ Below w.heap.size w w' :=
  rzsame_any A B n m t.s t.c t.f t.x t.b t.m A2 B2 n2 m2 u.s u.c u.f u.x u.b u.m w hm hm2 (by have := hF.l64; omega) (by have := hF2.l64; omega) (by have := hF.c9; omega) (by have := hF2.c9; omega)
end Go.Proofs.YtjkgellkkjjnbaaGreatDoor
