/- Stores: what doing one act answers, plainly, both sides; what an act makes of a whole store. For every disk within what they ask. -/
import Derived.Test.YtjkgellkkjjnbaaGreatDoorZG3
import Derived.Test.YtjkgellkkjjnbaaGreatDoorZH
namespace Go.Proofs.YtjkgellkkjjnbaaGreatDoor
open Go.RowKit

/-- It hands back a store, a text and a number, and leaves what was there as it was. -/
def GivesP (r : (Sto × Int) × ByteArray) (w : World) (e : Ending) (w' : World) : Prop :=
  ∃ A n B m, e = .returned (.tuple #[toV r.1.1 A n B m, .string r.2, .int .i64 r.1.2]) ∧ Mem w' A n B m r.1.1.s r.1.1.c ∧ Below w.heap.size w w'

theorem gives_p {r : Sto × Int} {w : World} {e : Ending} {w' : World} (h : ∃ A n B m, e = .returned (.tuple #[toV r.1 A n B m, .string e0, .int .i64 r.2]) ∧ Mem w' A n B m r.1.s r.1.c ∧ Below w.heap.size w w') : GivesP (r, e0) w e w' := h

theorem rplain_any (A B : Option Addr) (n m : Nat) (t : Sto) (a : Act) (w : World) (hm : Mem w A n B m t.s t.c) (hF : Fit t.s t.c t.f) (hk : t.m < 4294967296) (ha : a.m < 4294967296) (hw : a.b.wide) :
    Calls Tryz.prog 18 #[toV t A n B m, actV a] w (GivesP (t.act a) w) := by
  obtain ⟨s, c, f, x, b, k⟩ := t
  obtain ⟨g, i, k2, d, q⟩ := a
  unfold Sto.act
  dsimp only at *
  by_cases h0 : g = 0
  · subst h0
    rw [if_pos rfl]
    have hR := fun (v : World) (hb : Below w.heap.size w v) => rzmark_any A B n m s c f x b k i v (hm.up hb) hF hk
    generalize Sto.mark ⟨s, c, f, x, b, k⟩ i = r at *
    obtain ⟨⟨s1, c1, f1, x1, b1, k1⟩, e1⟩ := r
    exact (rzdo_mark A B n m s c f x b k i k2 d q w s1 c1 f1 x1 b1 k1 e1 hR).mono fun _ _ h => h
  rw [if_neg h0]
  by_cases h1 : g = 1
  · subst h1
    rw [if_pos rfl]
    have hR := fun (v : World) (hb : Below w.heap.size w v) => rzwipe_any A B n m s c f x b k i v (hm.up hb) hF hk
    generalize Sto.wipe ⟨s, c, f, x, b, k⟩ i = r at *
    obtain ⟨⟨s1, c1, f1, x1, b1, k1⟩, e1⟩ := r
    exact (rzdo_wipe A B n m s c f x b k i k2 d q w s1 c1 f1 x1 b1 k1 e1 hR).mono fun _ _ h => h
  rw [if_neg h1]
  by_cases h2 : g = 2
  · subst h2
    rw [if_pos rfl]
    have hR := fun (v : World) (hb : Below w.heap.size w v) => rzjoin_any A B n m s c f x b k k2 v (hm.up hb) hF hk ha
    generalize Sto.join ⟨s, c, f, x, b, k⟩ k2 = r at *
    obtain ⟨⟨s1, c1, f1, x1, b1, k1⟩, e1⟩ := r
    exact (rzdo_join A B n m s c f x b k i k2 d q w s1 c1 f1 x1 b1 k1 e1 hR).mono fun _ _ h => h
  rw [if_neg h2]
  by_cases h3 : g = 3
  · subst h3
    rw [if_pos rfl]
    have hR := fun (v : World) (hb : Below w.heap.size w v) => rzput_any A B n m s c f x b k i d v (hm.up hb) hF
    generalize Sto.put ⟨s, c, f, x, b, k⟩ i d = r at *
    obtain ⟨⟨s1, c1, f1, x1, b1, k1⟩, e1⟩ := r
    exact (rzdo_put A B n m s c f x b k i k2 d q w s1 c1 f1 x1 b1 k1 e1 hR).mono fun _ _ h => h
  rw [if_neg h3]
  by_cases h4 : g = 4
  · subst h4
    rw [if_pos rfl]
    have hR := fun (v : World) (hb : Below w.heap.size w v) => rzcommit_any A B n m s c f x b k q v (hm.up hb) hF hw
    generalize Sto.commit ⟨s, c, f, x, b, k⟩ q = r at *
    obtain ⟨⟨s1, c1, f1, x1, b1, k1⟩, e1⟩ := r
    exact (rzdo_commit A B n m s c f x b k i k2 d q w s1 c1 f1 x1 b1 k1 e1 hR).mono fun _ _ h => h
  rw [if_neg h4]
  have hR := fun (v : World) (hb : Below w.heap.size w v) => rzread_any A B n m s c f x b k i v (hm.up hb) hF
  exact (rzdo_read A B n m s c f x b k g i k2 d q w h0 h1 h2 h3 h4 _ _ hR).mono fun _ _ h => ⟨A, n, B, m, h.1, hm.up h.2, h.2⟩

theorem do_any (A B : Option Addr) (n m : Nat) (t : Sto) (a : Act) (w : World) (hm : Mem w A n B m t.s t.c) (hF : Fit t.s t.c t.f) (hk : t.m < 4294967296) (ha : a.m < 4294967296) (hw : a.b.wide) :
    Calls Tryz.prog 17 #[toV t A n B m, actV a] w (GivesP (t.act a) w) := by
  obtain ⟨s, c, f, x, b, k⟩ := t
  obtain ⟨g, i, k2, d, q⟩ := a
  unfold Sto.act
  dsimp only at *
  by_cases h0 : g = 0
  · subst h0
    rw [if_pos rfl]
    have hR := fun (v : World) (hb : Below w.heap.size w v) => zmark_any A B n m s c f x b k i v (hm.up hb) hF hk
    generalize Sto.mark ⟨s, c, f, x, b, k⟩ i = r at *
    obtain ⟨⟨s1, c1, f1, x1, b1, k1⟩, e1⟩ := r
    exact (zdo_mark A B n m s c f x b k i k2 d q w s1 c1 f1 x1 b1 k1 e1 hR).mono fun _ _ h => h
  rw [if_neg h0]
  by_cases h1 : g = 1
  · subst h1
    rw [if_pos rfl]
    have hR := fun (v : World) (hb : Below w.heap.size w v) => zwipe_any A B n m s c f x b k i v (hm.up hb) hF hk
    generalize Sto.wipe ⟨s, c, f, x, b, k⟩ i = r at *
    obtain ⟨⟨s1, c1, f1, x1, b1, k1⟩, e1⟩ := r
    exact (zdo_wipe A B n m s c f x b k i k2 d q w s1 c1 f1 x1 b1 k1 e1 hR).mono fun _ _ h => h
  rw [if_neg h1]
  by_cases h2 : g = 2
  · subst h2
    rw [if_pos rfl]
    have hR := fun (v : World) (hb : Below w.heap.size w v) => zjoin_any A B n m s c f x b k k2 v (hm.up hb) hF hk ha
    generalize Sto.join ⟨s, c, f, x, b, k⟩ k2 = r at *
    obtain ⟨⟨s1, c1, f1, x1, b1, k1⟩, e1⟩ := r
    exact (zdo_join A B n m s c f x b k i k2 d q w s1 c1 f1 x1 b1 k1 e1 hR).mono fun _ _ h => h
  rw [if_neg h2]
  by_cases h3 : g = 3
  · subst h3
    rw [if_pos rfl]
    have hR := fun (v : World) (hb : Below w.heap.size w v) => zput_any A B n m s c f x b k i d v (hm.up hb) hF
    generalize Sto.put ⟨s, c, f, x, b, k⟩ i d = r at *
    obtain ⟨⟨s1, c1, f1, x1, b1, k1⟩, e1⟩ := r
    exact (zdo_put A B n m s c f x b k i k2 d q w s1 c1 f1 x1 b1 k1 e1 hR).mono fun _ _ h => h
  rw [if_neg h3]
  by_cases h4 : g = 4
  · subst h4
    rw [if_pos rfl]
    have hR := fun (v : World) (hb : Below w.heap.size w v) => zcommit_any A B n m s c f x b k q v (hm.up hb) hF hw
    generalize Sto.commit ⟨s, c, f, x, b, k⟩ q = r at *
    obtain ⟨⟨s1, c1, f1, x1, b1, k1⟩, e1⟩ := r
    exact (zdo_commit A B n m s c f x b k i k2 d q w s1 c1 f1 x1 b1 k1 e1 hR).mono fun _ _ h => h
  rw [if_neg h4]
  have hR := fun (v : World) (hb : Below w.heap.size w v) => zread_any A B n m s c f x b k i v (hm.up hb) hF
  exact (zdo_read A B n m s c f x b k g i k2 d q w h0 h1 h2 h3 h4 _ _ hR).mono fun _ _ h => ⟨A, n, B, m, h.1, hm.up h.2, h.2⟩
end Go.Proofs.YtjkgellkkjjnbaaGreatDoor
