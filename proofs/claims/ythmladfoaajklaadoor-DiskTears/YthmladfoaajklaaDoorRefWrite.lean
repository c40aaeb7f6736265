/- The contract of the document's Write. -/
import Derived.Test.YthmladfoaajklaaDoorRefGet
namespace Go.Proofs.YthmladfoaajklaaDoor
open Go.RowKit Go.Maps
section
variable {b m n : Nat} {pg : Nat → ByteArray} {left torn : Int} {w : World}

theorem refWrite_range (b : Nat) (k : Int) (s : ByteArray) (w : World) (hk : k < 0 ∨ 4001 ≤ k) :
    Calls Tryd.prog 17 #[.pointer (some ⟨b, 0, none⟩), .int .i64 k, .string s] w fun e w' => e = .returned (.int .i64 2) ∧ w' = w := by
  go_enter Tryd.func17, Tryd.ntmps17
  go_wp2_with fail
  refine (refIn_no k w hk).mono ?_
  rintro _ _ ⟨rfl, rfl⟩
  go_wp2
  go_ret
  exact ⟨rfl, rfl⟩

/-- the document's disk with a page laid anew in its map -/
theorem RefIs.put (h : RefIs b m n pg left torn w) (k : Nat) (s : ByteArray) (hs : s.size = 1024) {D : DataW Unit} {w' : World} (hown : w'.ownsMap Tryd.prog 3 (plainElem Tryd.prog 9) m (n + 1) (D.put (.int .i64 k) (.lit (.string s.data.toList)))) (hH : Holds pg D) (hg : w.grownBy w' (some m)) : RefIs b m (n + 1) (upd pg k s) left torn w' := by
  have hb := hg.block b h.lt (fun e => h.ne (by cases e; rfl))
  have c : ∀ k, w'.cell? ⟨b, k, none⟩ = w.cell? ⟨b, k, none⟩ := fun k => World.cell?_of_block hb
  refine ⟨by rw [c]; exact h.map, by rw [c]; exact h.left, by rw [c]; exact h.torn, fun k => (World.frozen?_of_block (a := ⟨b, k, none⟩) hb).trans (h.free k), ⟨_, hown, hH.put k s⟩, fun i hi => ?_⟩
  by_cases e : i = k
  · simp [upd, e, hs]
  · simp [upd, e, h.size i hi]

set_option maxRecDepth 100000 in
set_option maxHeartbeats 400000 in
theorem refWrite_still (h : RefIs b m n pg left torn w) (h0 : left < 0) (hn : n ≤ 1000) (k : Nat) (hk : k < 4001) (s : ByteArray) (hs : s.size = 1024) :
    Calls Tryd.prog 17 #[.pointer (some ⟨b, 0, none⟩), .int .i64 k, .string s] w fun e w' => e = .returned (.int .i64 0) ∧ RefIs b m (n + 1) (upd pg k s) left torn w' ∧ Only2 b m w w' := by
  have HD : Hid (RefIs b m n pg left torn w) := h
  have c0 := h.map
  have c1 := h.left
  obtain ⟨D, hown, hH⟩ := h.owns
  have hkey : keyOf Tryd.prog 3 (.int .i64 k) = some (.int .i64 k) := keyOf_int_mk Tryd.underlying3 (wf_nat k hk)
  have hmax : s.size ≤ maxLen := by unfold maxLen; omega
  have hb0 : (left == 0) = false := by simp; omega
  clear h
  go_enter Tryd.func17, Tryd.ntmps17
  go_wp2_with fail
  refine (refIn_yes k w hk).mono ?_
  rintro _ _ ⟨rfl, rfl⟩
  go_wp2_with (at_mapUpdate; refine wpList_mapUpdate_own _ rfl _ _ _ 55 rfl 3 9 keyed3 Tryd.underlying55 _ m n D rfl hown (by unfold maxLen; omega) _ _ _ rfl rfl hkey _ [] (plainElem_string Tryd.underlying9 hmax) ?_; intro w1 hown1 hg1)
  go_wp2
  go_ret
  exact ⟨rfl, HD.out.put k s hs hown1 hH hg1, Only2.of_grown hg1 (.inr rfl)⟩

set_option maxRecDepth 100000 in
set_option maxHeartbeats 400000 in
theorem refWrite_less (h : RefIs b m n pg left torn w) (h0 : 0 < left) (hl : left ≤ 9223372036854775807) (hn : n ≤ 1000) (k : Nat) (hk : k < 4001) (s : ByteArray) (hs : s.size = 1024) :
    Calls Tryd.prog 17 #[.pointer (some ⟨b, 0, none⟩), .int .i64 k, .string s] w fun e w' => e = .returned (.int .i64 0) ∧ RefIs b m (n + 1) (upd pg k s) (left - 1) torn w' ∧ Only2 b m w w' := by
  have h2 := h.setLeft (left - 1)
  have HD : Hid (RefIs b m n pg (left - 1) torn (w.setCell ⟨b, 1, none⟩ (.int .i64 (left - 1)))) := h2
  have c1 := h.left
  have f1 := h.free 1
  have c0 := h2.map
  obtain ⟨D, hown, hH⟩ := h2.owns
  have hkey : keyOf Tryd.prog 3 (.int .i64 k) = some (.int .i64 k) := keyOf_int_mk Tryd.underlying3 (wf_nat k hk)
  have hmax : s.size ≤ maxLen := by unfold maxLen; omega
  have hb0 : (left == 0) = false := by simp; omega
  clear h h2
  go_enter Tryd.func17, Tryd.ntmps17
  go_wp2_with fail
  refine (refIn_yes k w hk).mono ?_
  rintro _ _ ⟨rfl, rfl⟩
  go_wp2_with (at_mapUpdate; refine wpList_mapUpdate_own _ rfl _ _ _ 55 rfl 3 9 keyed3 Tryd.underlying55 _ m n D rfl hown (by unfold maxLen; omega) _ _ _ rfl rfl hkey _ [] (plainElem_string Tryd.underlying9 hmax) ?_; intro w1 hown1 hg1)
  go_wp2
  go_ret
  exact ⟨rfl, HD.out.put k s hs hown1 hH hg1, (Only2.of_grown (grownBy_set _ b 1 _) (.inl rfl)).trans (Only2.of_grown hg1 (.inr rfl))⟩

theorem cat_torn (s old : ByteArray) (t : Nat) (ho : old.size = 1024) : s.extract 0 t ++ old.extract t 1024 = tornPage s old t := by
  have e2 : old.data.toList.length = 1024 := by simpa using ho
  apply ByteArray.ext
  apply Array.toList_inj.1
  rw [ByteArray.data_append, Array.toList_append, ByteArray.data_extract, ByteArray.data_extract]
  simp only [tornPage, Array.toList_extract]
  simp [List.take_of_length_le, e2]

theorem cat_elem (s old : ByteArray) (t : Nat) (hs : s.size = 1024) (ho : old.size = 1024) (ht : t ≤ 1024) : plainElem (H := Unit) Tryd.prog 9 (.string (s.extract 0 t ++ old.extract t 1024)) = some (.lit (.string (tornPage s old t).data.toList), []) := by
  rw [cat_torn s old t ho]
  exact plainElem_string Tryd.underlying9 (by rw [torn_size s old t hs ho ht]; unfold maxLen; omega)

set_option maxRecDepth 100000 in
set_option maxHeartbeats 400000 in
theorem refWrite_off (t : Nat) (h : RefIs b m n pg 0 t w) (ht : t ≤ 1024) (hn : n ≤ 1000) (k : Nat) (hk : k < 4001) (s : ByteArray) (hs : s.size = 1024) :
    Calls Tryd.prog 17 #[.pointer (some ⟨b, 0, none⟩), .int .i64 k, .string s] w fun e w' => e = .returned (.int .i64 14) ∧ RefIs b m (n + 1) (upd pg k (tornPage s (pg k) t)) 0 0 w' ∧ Only2 b m w w' := by
  have HD : Hid (RefIs b m n pg 0 t w) := h
  have c0 := h.map
  have c1 := h.left
  have c2 := h.torn
  have hkey : keyOf Tryd.prog 3 (.int .i64 k) = some (.int .i64 k) := keyOf_int_mk Tryd.underlying3 (wf_nat k hk)
  have hp := h.size k hk
  have ht' : (t : Int) ≤ 1024 := by omega
  clear h
  go_enter Tryd.func17, Tryd.ntmps17
  go_wp2_with fail
  refine (refIn_yes k w hk).mono ?_
  rintro _ w ⟨rfl, rfl⟩
  go_wp2_with fail
  go_region_held3 (fun w' => w'.cell? ⟨b, 0, none⟩ = some (.map (some m)) ∧ w'.cell? ⟨b, 2, none⟩ = some (.int .i64 t)) (simp [*])
    (first
      | (go_at_call 22; refine (refGet_any HD.out.drew k hk).mono ?_; rintro _ w1 ⟨rfl, hb1⟩; have hd1 := HD.out.drew.below hb1; have c10 := hd1.map; have c12 := hd1.torn; obtain ⟨D, hown, hH⟩ := hd1.owns; obtain ⟨w2, hrun, hown2, hg2⟩ := hown.update keyed3 Tryd.underlying55 (show n < maxLen by unfold maxLen; omega) hkey (cat_elem s (pg k) t hs hp ht); have c20 := hg2.cell c10 (fun e => hd1.ne (by cases e; rfl)); have c22 := hg2.cell c12 (fun e => hd1.ne (by cases e; rfl)); have hd2 := hd1.put k _ (torn_size s (pg k) t hs hp ht) hown2 hH hg2; have f2 := hd2.free 2; have HD2 : Hid _ := hd2; clear hd1 hd2 hown hH hown2))
  go_wp2
  go_ret
  refine ⟨rfl, HD2.out.setTorn 0, ?_⟩
  exact ((Only2.of_grown (grown_of_drew hb1 (some b)) (.inl rfl)).trans (Only2.of_grown hg2 (.inr rfl))).trans (Only2.of_grown (grownBy_set _ b 2 _) (.inl rfl))
end
end Go.Proofs.YthmladfoaajklaaDoor
