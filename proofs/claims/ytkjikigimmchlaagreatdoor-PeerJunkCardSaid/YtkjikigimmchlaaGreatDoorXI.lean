/- Rows of numbers and of mints compared, by the document and by the library. -/
import Derived.Test.YtkjikigimmchlaaGreatDoorX3
import Derived.Test.YtkjikigimmchlaaGreatDoorXB
namespace Go.Proofs.YtkjikigimmchlaaGreatDoor
open Go.RowKit
theorem encT_small (p : Pkt) : p.encT.size ≤ 200 := by
  unfold Pkt.encT
  split
  · next h =>
    unfold Pkt.right at h
    simp only [Bool.and_eq_true, decide_eq_true_eq] at h
    have hd : p.d.size ≤ 8 := by
      have := h.2.2.2
      split at this
      · have := of_decide_eq_true this; omega
      · have := of_decide_eq_true this; omega
    have h1 : (if p.k = 1 then p.h.body else []).length ≤ 38 := by
      split
      · rw [hbody_length]; exact Nat.le_refl _
      · exact Nat.zero_le _
    have h2 : (if blockK p.k then [UInt8.ofNat p.b.toNat] else []).length ≤ 1 := by split <;> simp
    have h3 : p.d.data.toList.length = p.d.size := by rw [Array.length_toList]; rfl
    rw [txt_size, seal_length]
    unfold Pkt.body
    simp only [List.length_append, be_length, List.length_cons, List.length_nil]
    omega
  · decide
def Sm (l : List Ou) : Prop := ∀ o ∈ l, o.k = 1 → o.d.size ≤ 200
section
variable {n : Nod}
theorem sm_nil : Sm [] := fun o h => by simp at h
theorem sm_app {l m : List Ou} (h : Sm l) (g : Sm m) : Sm (l ++ m) := fun o ho => (List.mem_append.1 ho).elim (h o) (g o)
theorem sm_send (p : Pkt) : Sm [n.send p] := fun o ho _ => by rw [List.mem_singleton.1 ho]; exact encT_small _
theorem sm_reply (id e : Int) (d : ByteArray) : Sm [n.reply id e d] := fun o ho h => by rw [List.mem_singleton.1 ho] at h; cases h
theorem sm_close : Sm [n.close] := fun o ho h => by rw [List.mem_singleton.1 ho] at h; cases h
theorem sm_cons {o : Ou} {l : List Ou} (h : Sm [o]) (g : Sm l) : Sm (o :: l) := sm_app h g
theorem sm_promote (id : Int) : Sm (n.promote id).2 := by
  unfold Nod.promote Nod.refuse
  dsimp only
  repeat' split
  all_goals first | exact sm_nil | exact sm_reply _ _ _ | exact sm_send _
theorem sm_demote (id : Int) : Sm (n.demote id).2 := by
  unfold Nod.demote Nod.refuse
  dsimp only
  repeat' split
  all_goals first | exact sm_nil | exact sm_reply _ _ _ | exact sm_app (sm_send _) (sm_reply _ _ _) | exact sm_app sm_nil (sm_reply _ _ _)
theorem sm_discard (id : Int) : Sm (n.discard id).2 := by
  unfold Nod.discard Nod.refuse
  dsimp only
  repeat' split
  all_goals first | exact sm_nil | exact sm_reply _ _ _
theorem sm_read (id i : Int) : Sm (n.read id i).2 := by
  unfold Nod.read Nod.refuse
  repeat' split
  all_goals exact sm_reply _ _ _
theorem sm_laid (id i : Int) (d : ByteArray) : Sm (n.laid id i d).2 := by
  unfold Nod.laid
  dsimp only
  repeat' split
  all_goals first | exact sm_nil | exact sm_reply _ _ _ | exact sm_send _
theorem sm_write (id i : Int) (d : ByteArray) : Sm (n.write id i d).2 := by
  unfold Nod.write Nod.refuse
  repeat' split
  all_goals first | exact sm_nil | exact sm_reply _ _ _ | exact sm_laid _ _ _
theorem sm_acked (i : Int) : Sm (n.acked i).2 := by
  unfold Nod.acked
  dsimp only
  repeat' split
  all_goals first | exact sm_nil | exact sm_cons (sm_reply _ _ _) (sm_send _) | exact sm_reply _ _ _
theorem sm_apply (i : Int) (d : ByteArray) : Sm (n.apply i d).2 := by
  unfold Nod.apply
  dsimp only
  split
  · exact sm_send _
  · exact sm_nil
theorem sm_seek : Sm n.seek.2 := by
  unfold Nod.seek
  split
  · exact sm_nil
  · split
    · exact sm_send _
    · dsimp only
      split
      · exact sm_send _
      · exact sm_nil
theorem sm_got (i : Int) (d : ByteArray) : Sm (n.got i d).2 := by
  unfold Nod.got
  dsimp only
  repeat' split
  all_goals first | exact sm_nil | exact sm_cons (sm_send _) sm_seek
theorem sm_copied (i : Int) : Sm (n.copied i).2 := by
  unfold Nod.copied
  split <;> exact sm_nil
theorem sm_ended : Sm n.ended.2 := by
  unfold Nod.ended
  dsimp only
  split
  · exact sm_send _
  · exact sm_nil
theorem sm_met (p : Hel) : Sm (n.met p).2 := by
  unfold Nod.met
  dsimp only
  repeat' split
  all_goals first | exact sm_nil | exact sm_close | exact sm_seek
theorem sm_roles (k : Int) : Sm (n.roles k).2 := by
  unfold Nod.roles
  dsimp only
  repeat' split
  all_goals first | exact sm_nil | exact sm_send _ | exact sm_reply _ _ _
theorem sm_takes (p : Pkt) : Sm (n.takes p).2 := by
  unfold Nod.takes
  repeat' split
  all_goals first | exact sm_met _ | exact sm_apply _ _ | exact sm_acked _ | exact sm_nil | exact sm_send _ | exact sm_got _ _ | exact sm_copied _ | exact sm_ended | exact sm_roles _
theorem sm_begins (n : Nod) (s : Int) : Sm (n.begins s).2 := sm_send (n := { n with st := 1, ses := s, mint := false }) _
theorem sm_receive (b : ByteArray) : Sm (n.receive b).2 := by
  unfold Nod.receive
  repeat' split
  all_goals first | exact sm_nil | exact sm_close | exact sm_takes _
def LS (l : Lnk) : Prop := (∀ t ∈ l.a, t.size ≤ 200) ∧ ∀ t ∈ l.b, t.size ≤ 200
theorem ls_nil (u : Bool) (s : Int) : LS ⟨u, s, [], []⟩ := ⟨fun t h => by simp at h, fun t h => by simp at h⟩
theorem ls_send {l : Lnk} (h : LS l) (g : Int) {x : ByteArray} (hx : x.size ≤ 200) : LS (l.send g [x]) := by
  have key : ∀ m : List ByteArray, (∀ t ∈ m, t.size ≤ 200) → ∀ t ∈ m ++ [x], t.size ≤ 200 := fun m hm t ht => by
    rcases List.mem_append.1 ht with ht | ht
    · exact hm t ht
    · rw [List.mem_singleton.1 ht]; exact hx
  unfold Lnk.send
  split
  · unfold Lnk.on Lnk.side
    split
    · exact ⟨key _ h.1, h.2⟩
    · exact ⟨h.1, key _ h.2⟩
  · exact h
theorem ls_sends : ∀ (o : List Ou) {l : Lnk} (_ : LS l) (_ : Sm o) (g : Int), LS (sendsL l g o)
  | [], _, h, _, _ => h
  | x :: r, l, h, hs, g => by
    have hr : Sm r := fun o ho => hs o (List.mem_cons_of_mem _ ho)
    unfold sendsL
    split
    · next hk =>
      refine ls_sends r ?_ hr g
      split
      · exact ls_send h g (hs x List.mem_cons_self hk)
      · exact h
    · exact ls_sends r h hr g
theorem ls_taken {l : Lnk} (h : LS l) (g : Int) : LS (l.taken g) := by
  unfold Lnk.taken
  split
  · unfold Lnk.on Lnk.side
    split
    · exact ⟨fun t ht => h.1 t (List.mem_of_mem_tail ht), h.2⟩
    · exact ⟨h.1, fun t ht => h.2 t (List.mem_of_mem_tail ht)⟩
  · exact h
theorem ls_first {l : Lnk} (h : LS l) (g : Int) : (l.first g).size ≤ 200 := by
  have key : ∀ m : List ByteArray, (∀ t ∈ m, t.size ≤ 200) → (m.headD ⟨#[]⟩).size ≤ 200 := fun m hm => by
    cases m with
    | nil => decide
    | cons y r => exact hm y List.mem_cons_self
  unfold Lnk.first
  split
  · unfold Lnk.side
    split
    · exact key _ h.1
    · exact key _ h.2
  · decide
section
theorem ls_after {c : Clu} (h : LS c.l) (i : Int) (n : Nod) (l : List Ou) (hl : Sm l) : LS (c.after i n l).1.l := by
  have hs : LS (sendsL c.l (1 - i) l) := (ls_sends l h hl (1 - i))
  have key : ∀ (c2 : Clu) (P : Prop) [Decidable P] (o : List Ou), c2.l = sendsL c.l (1 - i) l → LS (if P then (c2, o) else Clu.ends (if closesL l = true then { c2 with wa := false, wb := false } else c2) o).1.l := by
    intro c2 P _ o h2
    split
    · show LS c2.l
      rw [h2]
      exact hs
    · rw [ends_l]
      exact ls_nil _ _
  unfold Clu.after
  dsimp only
  refine key _ _ _ ?_
  split
  · rfl
  · exact setW_l _ _ _
theorem ls_connect {c : Clu} (h : LS c.l) (i : Int) : LS (c.connect i).1.l := by
  unfold Clu.connect
  split
  · exact h
  · dsimp only
    split
    · rw [setW_l]
      exact h
    · have h2 := ls_after (c := { c.setW i true with l := (c.setW i true).l.opened }) (ls_nil _ _) 0 ((c.setW i true).a.begins (c.setW i true).l.opened.s).1 _ (sm_begins (c.setW i true).a (c.setW i true).l.opened.s)
      exact ls_after h2 1 _ _ (sm_begins _ _)
section
variable {c : Clu} {v : Evt} {n : Nod}
theorem ls_ev4 (h : LS c.l) : LS (c.ev4 v n).1.l := by
  unfold Clu.ev4
  split
  · exact (ls_after h _ _ _ sm_nil)
  split
  · show LS (c.setN _ _).l
    rw [setN_l]
    exact h
  split
  · split
    · exact h
    · exact (ls_after h _ _ _ (sm_receive _))
  · exact h
theorem ls_ev3 (h : LS c.l) : LS (c.ev3 v n).1.l := by
  unfold Clu.ev3
  split
  · split
    · exact (ls_after (c := { c with l := c.l.taken v.n }) (ls_taken h _) _ _ _ (sm_receive _))
    · exact h
  split
  · split
    · exact (ls_after h _ _ _ sm_nil)
    · exact h
  split
  · show LS (c.setN _ _).l
    rw [setN_l]
    exact h
  · exact ls_ev4 h
theorem ls_ev2 (h : LS c.l) : LS (c.ev2 v n).1.l := by
  unfold Clu.ev2
  split
  · exact ls_connect h _
  split
  · split
    · rw [ends_l]
      exact ls_nil _ _
    · show LS (c.setW _ _).l
      rw [setW_l]
      exact h
  split
  · split
    · rw [ends_l]
      exact ls_nil _ _
    · exact h
  · exact ls_ev3 h
theorem ls_doEv (h : LS c.l) (v : Evt) : LS (c.doEv v).1.l := by
  unfold Clu.doEv
  split
  · exact h
  unfold Clu.ev1
  split
  · exact (ls_after h _ _ _ (sm_promote _))
  split
  · exact (ls_after h _ _ _ (sm_demote _))
  split
  · exact (ls_after h _ _ _ (sm_discard _))
  split
  · exact (ls_after h _ _ _ (sm_read _ _))
  split
  · exact (ls_after h _ _ _ (sm_write _ _ _))
  · exact ls_ev2 h
theorem ls_play : ∀ (l : List Evt) {c : Clu} (_ : LS c.l), LS (c.play l).1.l
  | [], _, h => h
  | v :: r, _, h => ls_play r (ls_doEv h v)
theorem ls_reach (N : Nat) (l : List Evt) : LS (reachC N l).l := ls_play l (ls_nil false 0)
end
end
end
end Go.Proofs.YtkjikigimmchlaaGreatDoor
namespace Go.Proofs.YtkjikigimmchlaaGreatDoor
open Go.RowKit
section
variable {c : Clu} {v : Evt} {n : Nod}
theorem aft9 {i : Int} {l : List Ou} (h : l.length ≤ 3) : (c.after i n l).2.length ≤ 40 := Nat.le_trans (after_len _ _ _ _) (by omega)
theorem connect_len (i : Int) : (c.connect i).2.length ≤ 40 := by
  unfold Clu.connect
  split
  · exact Nat.zero_le _
  · dsimp only
    split
    · exact Nat.zero_le _
    · rw [List.length_append]
      exact Nat.le_trans (Nat.add_le_add (after_len _ _ _ _) (after_len _ _ _ _)) (by decide : (1 + 6) + (1 + 6) ≤ 40)
theorem ev4_len : (c.ev4 v n).2.length ≤ 40 := by
  unfold Clu.ev4
  split
  · exact aft9 (Nat.zero_le _)
  split
  · exact Nat.zero_le _
  split
  · split
    · exact Nat.zero_le _
    · exact aft9 (out_receive _)
  · exact Nat.zero_le _
theorem ev3_len : (c.ev3 v n).2.length ≤ 40 := by
  unfold Clu.ev3
  split
  · split
    · exact aft9 (out_receive _)
    · exact Nat.zero_le _
  split
  · split
    · exact aft9 (Nat.zero_le _)
    · exact Nat.zero_le _
  split
  · exact (by decide : 1 ≤ 40)
  · exact ev4_len
theorem ev2_len : (c.ev2 v n).2.length ≤ 40 := by
  unfold Clu.ev2
  split
  · exact connect_len _
  split
  · split
    · exact Nat.le_trans (ends_len _ _) (by decide : 0 + 6 ≤ 40)
    · exact Nat.zero_le _
  split
  · split
    · exact Nat.le_trans (ends_len _ _) (by decide : 0 + 6 ≤ 40)
    · exact Nat.zero_le _
  · exact ev3_len
theorem doEv_len : (c.doEv v).2.length ≤ 40 := by
  unfold Clu.doEv
  split
  · exact Nat.zero_le _
  unfold Clu.ev1
  split
  · exact aft9 (out_promote _)
  split
  · exact aft9 (out_demote _)
  split
  · exact aft9 (out_discard _)
  split
  · exact aft9 (out_read _ _)
  split
  · exact aft9 (out_write _ _ _)
  · exact ev2_len
end
theorem play_len : ∀ (l : List Evt) (c : Clu), (c.play l).2.length ≤ 40 * l.length
  | [], _ => Nat.le_refl _
  | v :: r, c => by
    show ((c.doEv v).2 ++ ((c.doEv v).1.play r).2).length ≤ 40 * (r.length + 1)
    rw [List.length_append]
    have h1 := doEv_len (c := c) (v := v)
    have h2 := play_len r (c.doEv v).1
    omega
theorem way_new {N : Nat} (h1 : 1 ≤ N) (h2 : N ≤ 32) (l : List Evt) (hl : l.length ≤ 60) (hw : ∀ v ∈ l, v.wide ∧ (v.d.size : Int) ≤ 3000) : Way N (newC N) l := by
  have ht : ∀ j, (l.take j).length ≤ 60 := fun j => by rw [List.length_take]; omega
  refine ⟨fun j _ => ?_, fun j _ => ⟨?_, fun g => ?_⟩, fun j _ => ?_, hw⟩
  · have h := COk.play (l.take j) (new_ok h1 h2) fun v hv => (hw v (List.mem_of_mem_take hv)).1
    exact h.mono (by have := ht j; omega)
  · exact (llen_reach N (l.take j)).mono (by have := ht j; omega)
  · have := ls_first (ls_reach N (l.take j)) g
    exact Int.le_trans (Int.ofNat_le.2 this) (by decide)
  · have h := play_len (l.take j) (newC N)
    have := ht j
    omega
end Go.Proofs.YtkjikigimmchlaaGreatDoor
namespace Go.Proofs.YtkjikigimmchlaaGreatDoor
open Go.RowKit PX
set_option maxRecDepth 100000
section
variable {w : World}
theorem xfirst (v : World) : Calls Tryz.prog 23 #[] v fun e v' => e = .returned (.int .u64 7) ∧ Below v.heap.size v v' := run_v e_r
def blks (b : Int) : Nat := 1 + b.toNat % 4
theorem blks_eq {b : Int} (h0 : 0 ≤ b) (h1 : b < 256) : IntKind.i64.wrap (1 + IntKind.i64.wrap (b.tmod 4)) = ((blks b : Nat) : Int) := by
  obtain ⟨n, rfl⟩ := Int.eq_ofNat_of_zero_le h0
  have hn : n < 256 := by omega
  have : ∀ m : Nat, m < 256 → IntKind.i64.wrap (1 + IntKind.i64.wrap ((m : Int).tmod 4)) = ((blks (m : Int) : Nat) : Int) := by decide
  exact this n hn
theorem Evs.up {w w' : World} {A : Option Addr} {l : List Evt} (h : Evs w A l) (hb : Below w.heap.size w w') : Evs w' A l := fun j v hj => by
  obtain ⟨a, K, kc, ha, hlt, hk, hkl, hc⟩ := h j v hj
  exact ⟨a, K, kc, ha, Nat.lt_of_lt_of_le hlt hb.size, hk.up hb, hkl, fun i y hi => (cell_of (by rw [addr_block, addr_block]) (hb.block _ hlt)).trans (hc i y hi)⟩
theorem xreach {b : Int} (h0 : 0 ≤ b) (h1 : b < 256) (A : Option Addr) (l : List Evt) (kl : Nat) (hl : l.length ≤ 60) (hw : ∀ v ∈ l, v.wide ∧ (v.d.size : Int) ≤ 3000) (he : Evs w A l) : Calls Tryz.prog 10 #[.int .u8 b, .slice A l.length kl] w fun e w' => ∃ x, e = .returned (cluV (reachC (blks b) l) x) ∧ CM w' (reachC (blks b) l) x ∧ Below w.heap.size w w' := by
  have hb1 : 1 ≤ blks b := by unfold blks; omega
  have hb2 : blks b ≤ 32 := by unfold blks; omega
  refine run_ok (ap := tyL) (U := 0) (rows := []) (K := fun _ => True) rfl (st_p True) trivial ?_
  refine t_v (fun u _ => xfirst u) ?_
  refine t_call (args := #[.int .i64 (IntKind.i64.wrap (1 + IntKind.i64.wrap (b.tmod 4))), .int .u64 7]) (fun u _ _ => by rw [blks_eq h0 h1]; exact xnew (w := u) hb1 hb2) ?_
  rintro u e u' _ hb ⟨x, he', h2, h3⟩
  refine ⟨_, _, he', h3, st_cm _ x, h2, ?_⟩
  refine t_Cb (fun u hu hb => xplay (w := u) A kl (way_new hb1 hb2 l hl hw) (by omega) (he.up hb) hu.2) fun x2 A2 k2 => ?_
  exact t_ret (cluV (reachC (blks b) l) x2) fun u hu hb _ => ⟨x2, rfl, hu.2.1, base_below hb⟩
end
end Go.Proofs.YtkjikigimmchlaaGreatDoor
namespace Go.Proofs.YtkjikigimmchlaaGreatDoor
open Go.RowKit PX
set_option maxRecDepth 100000
def Evt.great (v : Evt) : Bool := decide (300 < v.d.size) || decide (100 < v.keeps.length)
structure Grt (l : List Evt) where
  k : Int
  j : Nat
  hj : j ≤ l.length
  hk : k = j
  he : (l.take j).any Evt.great = false
section
variable {w : World} {l : List Evt}
def grtL (A : Option Addr) (k : Nat) (y : Grt l) : List (Nat × AV) := [(0, .v (.slice A l.length k)), (5, .v (.int .i64 y.k))]
theorem xgreat (A : Option Addr) (k : Nat) (n : Int) (he : Evs w A l) (hn : n ≤ 1000000) : Calls Tryz.prog 5 #[.slice A l.length k, .int .i64 n] w fun e w' => e = .returned (.bool (decide (n < l.length) || l.any Evt.great)) ∧ Below w.heap.size w w' := by
  refine run_v ?_
  by_cases hl : n < l.length
  · exact t_Y (b := decide ((l.length : Int) > n)) 9 (decide_eq_true hl) (e_r2 (.bool true) (by simp [hl]))
  have hll : l.length ≤ 1000000 := by omega
  refine t_N (b := decide ((l.length : Int) > n)) 0 (decide_eq_false hl) ?_
  refine t_loop rfl (⟨0, 0, Nat.zero_le _, rfl, rfl⟩ : Grt l) (grtL A k) (fun _ => []) 100 (fun _ _ => True) (fun y => l.length - y.j) (fun _ => st_p _) (fun _ _ _ => trivial) ?_
  rintro ⟨k1, j, hj, rfl, hg⟩ f
  by_cases hjl : j < l.length
  · obtain ⟨v, hv⟩ : ∃ v, l[j]? = some v := ⟨l[j], List.getElem?_eq_getElem hjl⟩
    obtain ⟨a, K, kc, rfl, hlt, hk, hkl, hcell⟩ := he j v hv
    have ht : l.take (j + 1) = l.take j ++ [v] := by rw [List.take_add_one, hv]; rfl
    have hw1 : IntKind.i64.wrap ((j : Int) + 1) = ((j + 1 : Nat) : Int) := by rw [wrap_i64 (by omega) (by omega)]; push_cast; rfl
    have ck : 0 ≤ (j : Int) ∧ (j : Int) < (l.length : Nat) := ⟨by omega, by omega⟩
    have hmem : v ∈ l := List.mem_of_getElem? hv
    have hrd : ∀ u, Below w.heap.size w u → ∀ i y, (evC v K kc)[i]? = some y → 0 < i → u.cell? ⟨(a.add (j * 7)).block, (a.add (j * 7)).off + i, none⟩ = some y := fun u hb i y hi h0 => by
      have h1 := hcell i y hi
      rw [add_pos _ h0] at h1
      exact (cell_of (by show (a.add (j * 7)).block = a.block; rw [addr_block]) (hb.block _ hlt)).trans h1
    refine t_Y (b := decide ((j : Int) < (l.length : Int))) 0 (by simpa using hjl) (t_ck ck ?_)
    refine t_load (ty := 9) (p := ⟨(a.add (j * 7)).block, (a.add (j * 7)).off + 4, none⟩) (v := .string v.d) (fun u _ hb => reads1 (by kernel_rfl) (hrd u (base_below hb) 4 _ rfl (by omega))) ?_
    by_cases h3 : (v.d.size : Int) > 300
    · have hr : l.any Evt.great = true := List.any_eq_true.2 ⟨v, hmem, by unfold Evt.great; rw [decide_eq_true (by omega)]; rfl⟩
      exact t_N (b := !(decide ((v.d.size : Int) > 300))) 9 (by simpa using h3) (e_r2 (.bool true) (by simp [hr]))
    refine t_Y (b := !(decide ((v.d.size : Int) > 300))) 2 (by simpa using h3) (t_ck ck ?_)
    refine t_lit 2 (t_load (ty := 69) (p := ⟨(a.add (j * 7)).block, (a.add (j * 7)).off + 6, none⟩) (v := .slice K v.keeps.length kc) (fun u _ hb => reads1 (by kernel_rfl) (hrd u (base_below hb) 6 _ rfl (by omega))) (t_lit 2 ?_))
    by_cases h4 : (v.keeps.length : Int) > 100
    · have hr : l.any Evt.great = true := List.any_eq_true.2 ⟨v, hmem, by unfold Evt.great; rw [decide_eq_true (show 100 < v.keeps.length by omega)]; simp⟩
      exact t_Y (b := decide ((v.keeps.length : Int) > 100)) 9 (decide_eq_true h4) (e_r2 (.bool true) (by simp [hr]))
    have hgv : v.great = false := by unfold Evt.great; rw [decide_eq_false (by omega), decide_eq_false (by omega)]; rfl
    exact t_N (b := decide ((v.keeps.length : Int) > 100)) 0 (decide_eq_false h4) (t_end (grtL (some a) k) (fun _ => []) (fun _ _ => True) (fun y => l.length - y.j) (⟨j, j, hj, rfl, hg⟩ : Grt l) (⟨IntKind.i64.wrap ((j : Int) + 1), j + 1, hjl, hw1, by rw [ht, List.any_append, hg]; simp [hgv]⟩ : Grt l) (by show l.length - (j + 1) < l.length - j; omega) fun _ _ _ => trivial)
  · have hr : l.any Evt.great = false := by rw [← List.take_of_length_le (show l.length ≤ j by omega)]; exact hg
    exact t_N (b := decide ((j : Int) < (l.length : Int))) 9 (by simpa using hjl) (e_r2 (.bool false) (by simp [hr, hl]))
end
end Go.Proofs.YtkjikigimmchlaaGreatDoor
namespace Go.Proofs.YtkjikigimmchlaaGreatDoor
open Go.RowKit PX
set_option maxRecDepth 100000
def eqO (x y : Ou) : Bool := decide (x.k = y.k) && (decide (x.n = y.n) && (decide (x.id = y.id) && (decide (x.e = y.e) && decide (x.d = y.d))))
theorem eqO_iff {x y : Ou} : eqO x y = true ↔ x = y := by
  obtain ⟨a, b, c, d, e⟩ := x
  obtain ⟨a2, b2, c2, d2, e2⟩ := y
  simp [eqO]
theorem eql_ou (d : Nat) (x y : Ou) (w : World) : (Op.equalIn (d + 2) 59 (ouV x) (ouV y)).run Tryz.prog w = .ok (eqO x y) w := by
  unfold eqO
  by_cases h0 : x.k = y.k
  · by_cases h1 : x.n = y.n
    · by_cases h2 : x.id = y.id
      · by_cases h3 : x.e = y.e
        · simp [go_sem, h0, h1, h2, h3]
          by_cases h4 : x.d = y.d
          · simp [h4]
          · rw [if_neg (fun e => h4 (toList_inj e))]; simp [h4]
        · simp [go_sem, h0, h1, h2, h3]
      · simp [go_sem, h0, h1, h2]
    · simp [go_sem, h0, h1]
  · simp [go_sem, h0]
end Go.Proofs.YtkjikigimmchlaaGreatDoor
namespace Go.Proofs.YtkjikigimmchlaaGreatDoor
open Go.RowKit PX
set_option maxRecDepth 100000
theorem ou_reads {u : World} {a : Addr} {x : Ou} (h0 : u.cell? a = some (.int .i64 x.k)) (h1 : u.cell? ⟨a.block, a.off + 1, none⟩ = some (.int .i64 x.n)) (h2 : u.cell? ⟨a.block, a.off + 2, none⟩ = some (.int .i64 x.id)) (h3 : u.cell? ⟨a.block, a.off + 3, none⟩ = some (.int .i64 x.e)) (h4 : u.cell? ⟨a.block, a.off + 4, none⟩ = some (.string x.d)) : Reads Tryz.prog u 59 a (ouV x) := by
  refine readsC (ouC x) (fun i v hi => ?_) Tryz.underlying59 rfl (by kernel_rfl)
  match i, hi with
  | 0, hi => injection hi with hi; subst hi; simpa [Addr.add] using h0
  | 1, hi => injection hi with hi; subst hi; simpa [Addr.add] using h1
  | 2, hi => injection hi with hi; subst hi; simpa [Addr.add] using h2
  | 3, hi => injection hi with hi; subst hi; simpa [Addr.add] using h3
  | 4, hi => injection hi with hi; subst hi; simpa [Addr.add] using h4
theorem om_reads {A : Option Addr} {k j : Nat} {l : List Ou} {w : World} (h : OM w A k l) {x : Ou} (hx : l[j]? = some x) : ∃ a, A = some a ∧ ∀ u, Below w.heap.size w u → Reads Tryz.prog u 59 (a.add (j * 5)) (ouV x) := by
  obtain ⟨a, ha, _⟩ := h.o j x hx
  refine ⟨a, ha, fun u hb => ?_⟩
  obtain ⟨a2, ha2, _, h0, h1, h2, h3, h4⟩ := (h.up hb).o j x hx
  rw [ha] at ha2
  injection ha2 with e
  subst e
  exact ou_reads h0 h1 h2 h3 h4
structure Cmp (l r : List Ou) where
  k : Int
  j : Nat
  hj : j ≤ l.length
  hk : k = j
  he : l.take j = r.take j
end Go.Proofs.YtkjikigimmchlaaGreatDoor
namespace Go.Proofs.YtkjikigimmchlaaGreatDoor
open Go.RowKit PX
set_option maxRecDepth 100000
@[reducible] def mnC (x : Mnt) : List Value := [.int .u64 x.g, .int .u64 x.p, .int .i64 x.k]
@[reducible] def mnV (x : Mnt) : Value := .agg (mnC x).toArray
def eqM (x y : Mnt) : Bool := decide (x.g = y.g) && (decide (x.p = y.p) && decide (x.k = y.k))
theorem eqM_iff {x y : Mnt} : eqM x y = true ↔ x = y := by
  obtain ⟨a, b, c⟩ := x
  obtain ⟨a2, b2, c2⟩ := y
  simp [eqM]
theorem eql_mn (d : Nat) (x y : Mnt) (w : World) : (Op.equalIn (d + 2) 112 (mnV x) (mnV y)).run Tryz.prog w = .ok (eqM x y) w := by
  unfold eqM
  by_cases h0 : x.g = y.g
  · by_cases h1 : x.p = y.p
    · by_cases h2 : x.k = y.k
      · simp [go_sem, h0, h1, h2]
      · simp [go_sem, h0, h1, h2]
    · simp [go_sem, h0, h1]
  · simp [go_sem, h0]
theorem neq_mn (a b : Operand) (x y : Mnt) (w : World) : (do Go.eqGuard .neq 112 a b (mnV x) (mnV y); Go.binOp .neq 112 (mnV x) (mnV y) : Sem Value).run Tryz.prog w = .ok (.bool (!(eqM x y))) w := by
  simp [go_sem, eql_mn]
theorem mn_reads {u : World} {a : Addr} {x : Mnt} (h0 : u.cell? a = some (.int .u64 x.g)) (h1 : u.cell? ⟨a.block, a.off + 1, none⟩ = some (.int .u64 x.p)) (h2 : u.cell? ⟨a.block, a.off + 2, none⟩ = some (.int .i64 x.k)) : Reads Tryz.prog u 112 a (mnV x) := by
  refine readsC (mnC x) (fun i v hi => ?_) Tryz.underlying112 rfl (by kernel_rfl)
  match i, hi with
  | 0, hi => injection hi with hi; subst hi; simpa [Addr.add] using h0
  | 1, hi => injection hi with hi; subst hi; simpa [Addr.add] using h1
  | 2, hi => injection hi with hi; subst hi; simpa [Addr.add] using h2
theorem ms_reads {A : Option Addr} {j : Nat} {l : List Mnt} {w : World} (h : Ms w w.heap.size A l) {x : Mnt} (hx : l[j]? = some x) : ∃ a, A = some a ∧ ∀ u, Below w.heap.size w u → Reads Tryz.prog u 112 (a.add (j * 3)) (mnV x) := by
  obtain ⟨a, ha, _⟩ := h j x hx
  refine ⟨a, ha, fun u hb => ?_⟩
  obtain ⟨a2, ha2, _, h0, h1, h2⟩ := (h.up hb) j x hx
  rw [ha] at ha2
  injection ha2 with e
  subst e
  exact mn_reads h0 h1 h2
structure CmpM (l r : List Mnt) where
  k : Int
  j : Nat
  hj : j ≤ l.length
  hk : k = j
  he : l.take j = r.take j
section
variable {w : World} {l r : List Mnt}
def cmpM (A : Option Addr) (k : Nat) (B : Option Addr) (m : Nat) (y : CmpM l r) : List (Nat × AV) := [(0, .v (.slice A l.length k)), (1, .v (.slice B r.length m)), (5, .v (.int .i64 y.k))]
theorem xmintsEq (A : Option Addr) (k : Nat) (B : Option Addr) (m : Nat) (ha : Ms w w.heap.size A l) (hb : Ms w w.heap.size B r) (hll : l.length ≤ 1000000) (bb : Bool) (hbb : bb = true ↔ l = r) : Calls Tryz.prog 21 #[.slice A l.length k, .slice B r.length m] w fun e w' => e = .returned (.bool bb) ∧ Below w.heap.size w w' := by
  refine run_v ?_
  by_cases hl : l.length = r.length
  · refine t_N (b := ((l.length : Int) != (r.length : Int))) 0 (by rw [hl]; simp) ?_
    refine t_loop rfl (⟨0, 0, Nat.zero_le _, rfl, rfl⟩ : CmpM l r) (cmpM A k B m) (fun _ => []) 100 (fun _ _ => True) (fun y => l.length - y.j) (fun _ => st_p _) (fun _ _ _ => trivial) ?_
    rintro ⟨k1, j, hj, rfl, he⟩ f
    by_cases hjl : j < l.length
    · obtain ⟨x, hx⟩ : ∃ x, l[j]? = some x := ⟨l[j], List.getElem?_eq_getElem hjl⟩
      obtain ⟨y, hy⟩ : ∃ y, r[j]? = some y := ⟨r[j]'(by omega), List.getElem?_eq_getElem (by omega)⟩
      obtain ⟨a, rfl, hra⟩ := ms_reads ha hx
      obtain ⟨b, rfl, hrb⟩ := ms_reads hb hy
      have ck : 0 ≤ (j : Int) ∧ (j : Int) < (l.length : Nat) := ⟨by omega, by omega⟩
      have ck2 : 0 ≤ (j : Int) ∧ (j : Int) < (r.length : Nat) := ⟨by omega, by omega⟩
      refine t_Y (b := decide ((j : Int) < (l.length : Int))) 0 (by simpa using hjl) ?_
      refine t_ck ck ?_
      refine t_load (ty := 112) (p := a.add (j * 3)) (v := mnV x) (fun u _ hb => hra u (base_below hb)) ?_
      refine t_ck ck2 (t_load (ty := 112) (p := b.add (j * 3)) (v := mnV y) (fun u _ hb => hrb u (base_below hb)) ?_)
      have hw1 : IntKind.i64.wrap ((j : Int) + 1) = ((j + 1 : Nat) : Int) := by rw [wrap_i64 (by omega) (by omega)]; push_cast; rfl
      have ht : l.take (j + 1) = l.take j ++ [x] := by rw [List.take_add_one, hx]; rfl
      have ht2 : r.take (j + 1) = r.take j ++ [y] := by rw [List.take_add_one, hy]; rfl
      refine t_sem (do Go.eqGuard .neq 112 (.tmp 20) (.tmp 24) (mnV x) (mnV y); Go.binOp .neq 112 (mnV x) (mnV y)) (v := .bool (!(eqM x y))) (fun u _ _ => neq_mn _ _ x y u) ?_
      by_cases hxy : x = y
      · exact t_N (b := !(eqM x y)) 0 (by rw [eqM_iff.2 hxy]; rfl) (t_end (cmpM (some a) k (some b) m) (fun _ => []) (fun _ _ => True) (fun y => l.length - y.j) (⟨j, j, hj, rfl, he⟩ : CmpM l r) (⟨IntKind.i64.wrap ((j : Int) + 1), j + 1, hjl, hw1, by rw [ht, ht2, he, hxy]⟩ : CmpM l r) (by show l.length - (j + 1) < l.length - j; omega) fun _ _ _ => trivial)
      · have hq : eqM x y = false := by cases h : eqM x y with | false => rfl | true => exact absurd (eqM_iff.1 h) hxy
        have hne : ¬ l = r := fun e => hxy (by rw [e] at hx; rw [hx] at hy; exact Option.some.inj hy)
        exact t_Y (b := !(eqM x y)) 9 (by rw [hq]; rfl) (e_r2 (.bool false) (by cases bb with | false => rfl | true => exact absurd (hbb.1 rfl) hne))
    · have hr : l = r := by
        have h1 : l.take j = l := List.take_of_length_le (by omega)
        have h2 : r.take j = r := List.take_of_length_le (by omega)
        rw [← h1, ← h2]
        exact he
      exact t_N (b := decide ((j : Int) < (l.length : Int))) 9 (by simpa using hjl) (e_r2 (.bool true) (by rw [hbb.2 hr]))
  · have hne : ¬ l = r := fun e => hl (by rw [e])
    exact t_Y (b := ((l.length : Int) != (r.length : Int))) 9 (by simp; omega) (e_r2 (.bool false) (by cases bb with | false => rfl | true => exact absurd (hbb.1 rfl) hne))
end
end Go.Proofs.YtkjikigimmchlaaGreatDoor
namespace Go.Proofs.YtkjikigimmchlaaGreatDoor
open Go.RowKit PX
set_option maxRecDepth 100000
structure CmpL {α : Type} (l r : List α) where
  k : Int
  j : Nat
  hj : j ≤ l.length
  hk : k = j
  he : l.take j = r.take j
theorem n_reads {A : Option Addr} {j : Nat} {l : List Int} {w : World} (h : Es (Value.int .u64) w w.heap.size A l) {x : Int} (hx : l[j]? = some x) : ∃ a, A = some a ∧ ∀ u, Below w.heap.size w u → Reads Tryz.prog u 31 (a.add (j * 1)) (.int .u64 x) := by
  rw [Nat.mul_one]
  obtain ⟨a, ha, _⟩ := h j x hx
  refine ⟨a, ha, fun u hb => ?_⟩
  obtain ⟨a2, ha2, _, h0⟩ := (h.up hb) j x hx
  rw [ha] at ha2
  injection ha2 with e
  subst e
  exact reads1 (by kernel_rfl) h0
section
variable {w : World} {A B : Option Addr} {k m : Nat}
def xnumsEqL {l r : List Int} (A : Option Addr) (k : Nat) (B : Option Addr) (m : Nat) (y : CmpL l r) : List (Nat × AV) := [(0, .v (.slice A l.length k)), (1, .v (.slice B r.length m)), (5, .v (.int .i64 y.k))]
theorem xnumsEq {l r : List Int} (ha : Es (Value.int .u64) w w.heap.size A l) (hb : Es (Value.int .u64) w w.heap.size B r) (hll : l.length ≤ 1000000) (bb : Bool) (hbb : bb = true ↔ l = r) : Calls Tryz.prog 20 #[.slice A l.length k, .slice B r.length m] w fun e w' => e = .returned (.bool bb) ∧ Below w.heap.size w w' := by
  refine run_v ?_
  by_cases hl : l.length = r.length
  · refine t_N (b := ((l.length : Int) != (r.length : Int))) 0 (by rw [hl]; simp) ?_
    refine t_loop rfl (⟨0, 0, Nat.zero_le _, rfl, rfl⟩ : CmpL l r) (xnumsEqL A k B m) (fun _ => []) 100 (fun _ _ => True) (fun y => l.length - y.j) (fun _ => st_p _) (fun _ _ _ => trivial) ?_
    rintro ⟨k1, j, hj, rfl, he⟩ f
    by_cases hjl : j < l.length
    · obtain ⟨x, hx⟩ : ∃ x, l[j]? = some x := ⟨l[j], List.getElem?_eq_getElem hjl⟩
      obtain ⟨y, hy⟩ : ∃ y, r[j]? = some y := ⟨r[j]'(by omega), List.getElem?_eq_getElem (by omega)⟩
      obtain ⟨a, rfl, hra⟩ := n_reads ha hx
      obtain ⟨b, rfl, hrb⟩ := n_reads hb hy
      have ck : 0 ≤ (j : Int) ∧ (j : Int) < (l.length : Nat) := ⟨by omega, by omega⟩
      have ck2 : 0 ≤ (j : Int) ∧ (j : Int) < (r.length : Nat) := ⟨by omega, by omega⟩
      refine t_Y (b := decide ((j : Int) < (l.length : Int))) 0 (by simpa using hjl) ?_
      refine t_ck ck ?_
      refine t_load (ty := 31) (p := a.add (j * 1)) (v := .int .u64 x) (fun u _ hb => hra u (base_below hb)) ?_
      refine t_ck ck2 (t_load (ty := 31) (p := b.add (j * 1)) (v := .int .u64 y) (fun u _ hb => hrb u (base_below hb)) ?_)
      have hw1 : IntKind.i64.wrap ((j : Int) + 1) = ((j + 1 : Nat) : Int) := by rw [wrap_i64 (by omega) (by omega)]; push_cast; rfl
      have ht : l.take (j + 1) = l.take j ++ [x] := by rw [List.take_add_one, hx]; rfl
      have ht2 : r.take (j + 1) = r.take j ++ [y] := by rw [List.take_add_one, hy]; rfl
      by_cases hxy : x = y
      · exact t_N (b := (x != y)) 0 (by simp [hxy]) (t_end (xnumsEqL (some a) k (some b) m) (fun _ => []) (fun _ _ => True) (fun y => l.length - y.j) (⟨j, j, hj, rfl, he⟩ : CmpL l r) (⟨IntKind.i64.wrap ((j : Int) + 1), j + 1, hjl, hw1, by rw [ht, ht2, he, hxy]⟩ : CmpL l r) (by show l.length - (j + 1) < l.length - j; omega) fun _ _ _ => trivial)
      · have hne : ¬ l = r := fun e => hxy (by rw [e] at hx; rw [hx] at hy; exact Option.some.inj hy)
        exact t_Y (b := (x != y)) 9 (by simpa using hxy) (e_r2 (.bool false) (by cases bb with | false => rfl | true => exact absurd (hbb.1 rfl) hne))
    · have hr : l = r := by
        have h1 : l.take j = l := List.take_of_length_le (by omega)
        have h2 : r.take j = r := List.take_of_length_le (by omega)
        rw [← h1, ← h2]
        exact he
      exact t_N (b := decide ((j : Int) < (l.length : Int))) 9 (by simpa using hjl) (e_r2 (.bool true) (by rw [hbb.2 hr]))
  · have hne : ¬ l = r := fun e => hl (by rw [e])
    exact t_Y (b := ((l.length : Int) != (r.length : Int))) 9 (by simp; omega) (e_r2 (.bool false) (by cases bb with | false => rfl | true => exact absurd (hbb.1 rfl) hne))
end
end Go.Proofs.YtkjikigimmchlaaGreatDoor
