/- The words of a session, as package run keeps them: a map of structs with closures. -/
import Derived.Test.YtgngdabfmbipaakGreatDoorKRunArgs
import Derived.Test.YtgngdabfmbipaakGreatDoorKG38
namespace Go.Proofs.YtgngdabfmbipaakGreatDoor
open Go.RowKit Go.Sort Go.Shelf
set_option linter.unusedVariables false
set_option linter.unusedSimpArgs false
theorem push_put {V : World} {o o' : Obj} : { V.alloc o with heap := (V.alloc o).heap.setIfInBounds V.heap.size o' } = V.alloc o' := by
  have e : (V.alloc o).heap.setIfInBounds V.heap.size o' = V.heap.push o' := by
    show (V.heap.push o).setIfInBounds V.heap.size o' = V.heap.push o'
    apply Array.ext'
    simp
  rw [e]
  rfl
theorem upd_new {V : World} (mty kt et : TypeId) (es : List MapEntry) (clock : Nat) (s : ByteArray) (val : Value) (hm : Tryz.prog.underlying mty = some (.map kt et)) (hk : Tryz.prog.underlying kt = some .string) (hf : Instr.findNow .string (.string s) es 0 = some none) :
    (Instr.mapUpdate mty (.map (some V.heap.size)) (.string s) val).run Tryz.prog (V.alloc (.map es.toArray clock)) = .ok () (V.alloc (.map (es ++ [({ key := .string s, val := val, born := clock } : MapEntry)]).toArray (clock + 1))) := by
  have hb : (V.alloc (.map es.toArray clock)).heap[V.heap.size]? = some (.map es.toArray clock) := heap_new V _
  have hc : (Instr.checkKey false 10000 kt (.string s)).run Tryz.prog (V.alloc (.map es.toArray clock)) = .ok () (V.alloc (.map es.toArray clock)) := MapKept.run_checkKey (k := .string s) hk (by simp [MapKept.IsKey]) false 9999
  have hp : es.toArray.push ({ key := .string s, val := val, born := clock } : MapEntry) = (es ++ [({ key := .string s, val := val, born := clock } : MapEntry)]).toArray := by simp
  simp only [Instr.mapUpdate, Sem.run_bind, run_underlying hm, MapKept.run_getObj_map hb, hc, MapKept.run_findKey hk hf, MapKept.run_setObj_map _ hb, Result.andThen]
  rw [hp, push_put]
theorem look_hit {w : World} {mty kt et : TypeId} {r clock i : Nat} {es : List MapEntry} {s : ByteArray} {val : Value} (hm : Tryz.prog.underlying mty = some (.map kt et)) (hk : Tryz.prog.underlying kt = some .string) (hb : w.heap[r]? = some (.map es.toArray clock)) (hf : Instr.findNow .string (.string s) es 0 = some (some (i, val))) :
    (Instr.lookup mty (.map (some r)) (.string s) true).run Tryz.prog w = .ok (.tuple #[val, .bool true]) w := by
  have hc : ∀ b, (Instr.checkKey b 10000 kt (.string s)).run Tryz.prog w = .ok () w := fun b => MapKept.run_checkKey (k := .string s) hk (by simp [MapKept.IsKey]) b 9999
  simp [Instr.lookup, run_underlying hm, MapKept.run_getObj_map hb, hc, MapKept.run_findKey hk hf, Result.andThen]
theorem look_miss {w : World} {mty kt et : TypeId} {r clock : Nat} {es : List MapEntry} {s : ByteArray} {z : Value} (hm : Tryz.prog.underlying mty = some (.map kt et)) (hk : Tryz.prog.underlying kt = some .string) (hz : (zeroValue et).run Tryz.prog w = .ok z w) (hb : w.heap[r]? = some (.map es.toArray clock)) (hf : Instr.findNow .string (.string s) es 0 = some none) :
    (Instr.lookup mty (.map (some r)) (.string s) true).run Tryz.prog w = .ok (.tuple #[z, .bool false]) w := by
  have hc : ∀ b, (Instr.checkKey b 10000 kt (.string s)).run Tryz.prog w = .ok () w := fun b => MapKept.run_checkKey (k := .string s) hk (by simp [MapKept.IsKey]) b 9999
  simp [Instr.lookup, run_underlying hm, MapKept.run_getObj_map hb, hc, MapKept.run_findKey hk hf, hz, Result.andThen]
/-- The words, each with what it does. -/
def cmdE (pb : Nat) : List MapEntry := [
  { key := .string ⟨#[98, 97, 115, 101]⟩, val := .agg #[.int .i64 1, .bool false, .func (.func 24) #[] #[.pointer (some ⟨pb, 0, none⟩)]], born := 0 },
  { key := .string ⟨#[108, 105, 102, 116]⟩, val := .agg #[.int .i64 1, .bool false, .func (.func 26) #[] #[]], born := 1 },
  { key := .string ⟨#[111, 114, 100, 101, 114]⟩, val := .agg #[.int .i64 1, .bool false, .func (.func 27) #[] #[.pointer (some ⟨pb, 0, none⟩)]], born := 2 },
  { key := .string ⟨#[104, 97, 115, 104]⟩, val := .agg #[.int .i64 0, .bool true, .func (.func 29) #[] #[]], born := 3 },
  { key := .string ⟨#[112, 97, 105, 114]⟩, val := .agg #[.int .i64 2, .bool false, .func (.func 32) #[] #[.pointer (some ⟨pb, 0, none⟩)]], born := 4 },
  { key := .string ⟨#[115, 105, 103, 110]⟩, val := .agg #[.int .i64 2, .bool true, .func (.func 34) #[] #[]], born := 5 },
  { key := .string ⟨#[115, 104, 111, 114, 116]⟩, val := .agg #[.int .i64 1, .bool true, .func (.func 37) #[] #[]], born := 6 },
  { key := .string ⟨#[104, 105, 100, 101]⟩, val := .agg #[.int .i64 2, .bool false, .func (.func 39) #[] #[]], born := 7 },
  { key := .string ⟨#[115, 104, 97, 114, 101, 115]⟩, val := .agg #[.int .i64 3, .bool false, .func (.func 41) #[] #[]], born := 8 }]
/-- The map of them lies here, and the base there. -/
def Cmds (w : World) (mb pb : Nat) : Prop := w.heap[mb]? = some (.map (cmdE pb).toArray 9) ∧ w.heap[pb]? = some (.cells #[.int .i64 ((tM 4).1 : Int), .int .i64 ((tM 4).2.1 : Int), .bool (tM 4).2.2] 28 (0, 0))
theorem Cmds.below {w w' : World} {mb pb : Nat} (h : Cmds w mb pb) (k : Below w.heap.size w w') : Cmds w' mb pb :=
  ⟨(k.block mb (Array.getElem?_eq_some_iff.1 h.1).1).trans h.1, (k.block pb (Array.getElem?_eq_some_iff.1 h.2).1).trans h.2⟩
theorem at_of_heap {W : World} {b : Nat} {vs : List Value} {t : TypeId} (h : W.heap[b]? = some (.cells vs.toArray t (0, 0))) : At W b vs :=
  ⟨(Array.getElem?_eq_some_iff.1 h).1, fun i _ => by unfold World.cell?; rw [h]; simp, fun i _ => by unfold World.frozen?; rw [h]; simp⟩
theorem Cmds.at {w : World} {mb pb : Nat} (h : Cmds w mb pb) : At w pb [.int .i64 ((tM 4).1 : Int), .int .i64 ((tM 4).2.1 : Int), .bool (tM 4).2.2] := at_of_heap h.2
theorem find_base (pb : Nat) : Instr.findNow .string (.string ⟨#[98, 97, 115, 101]⟩) (cmdE pb) 0 = some (some (0, .agg #[.int .i64 1, .bool false, .func (.func 24) #[] #[.pointer (some ⟨pb, 0, none⟩)]])) := by kernel_rfl
theorem find_lift (pb : Nat) : Instr.findNow .string (.string ⟨#[108, 105, 102, 116]⟩) (cmdE pb) 0 = some (some (1, .agg #[.int .i64 1, .bool false, .func (.func 26) #[] #[]])) := by kernel_rfl
theorem find_order (pb : Nat) : Instr.findNow .string (.string ⟨#[111, 114, 100, 101, 114]⟩) (cmdE pb) 0 = some (some (2, .agg #[.int .i64 1, .bool false, .func (.func 27) #[] #[.pointer (some ⟨pb, 0, none⟩)]])) := by kernel_rfl
theorem find_hash (pb : Nat) : Instr.findNow .string (.string ⟨#[104, 97, 115, 104]⟩) (cmdE pb) 0 = some (some (3, .agg #[.int .i64 0, .bool true, .func (.func 29) #[] #[]])) := by kernel_rfl
theorem find_pair (pb : Nat) : Instr.findNow .string (.string ⟨#[112, 97, 105, 114]⟩) (cmdE pb) 0 = some (some (4, .agg #[.int .i64 2, .bool false, .func (.func 32) #[] #[.pointer (some ⟨pb, 0, none⟩)]])) := by kernel_rfl
theorem find_sign (pb : Nat) : Instr.findNow .string (.string ⟨#[115, 105, 103, 110]⟩) (cmdE pb) 0 = some (some (5, .agg #[.int .i64 2, .bool true, .func (.func 34) #[] #[]])) := by kernel_rfl
theorem find_short (pb : Nat) : Instr.findNow .string (.string ⟨#[115, 104, 111, 114, 116]⟩) (cmdE pb) 0 = some (some (6, .agg #[.int .i64 1, .bool true, .func (.func 37) #[] #[]])) := by kernel_rfl
theorem find_hide (pb : Nat) : Instr.findNow .string (.string ⟨#[104, 105, 100, 101]⟩) (cmdE pb) 0 = some (some (7, .agg #[.int .i64 2, .bool false, .func (.func 39) #[] #[]])) := by kernel_rfl
theorem find_shares (pb : Nat) : Instr.findNow .string (.string ⟨#[115, 104, 97, 114, 101, 115]⟩) (cmdE pb) 0 = some (some (8, .agg #[.int .i64 3, .bool false, .func (.func 41) #[] #[]])) := by kernel_rfl
theorem same_str (a b : ByteArray) (h : a ≠ b) : Instr.sameNow .string (.string a) (.string b) = some false := by
  show some (a == b) = some false
  cases hq : (a == b) with
  | false => rfl
  | true => exact absurd ((MapKept.bytes_beq a b).1 hq) h
theorem find_none (pb : Nat) (s : ByteArray) (h0 : s ≠ ⟨#[98, 97, 115, 101]⟩) (h1 : s ≠ ⟨#[108, 105, 102, 116]⟩) (h2 : s ≠ ⟨#[111, 114, 100, 101, 114]⟩) (h3 : s ≠ ⟨#[104, 97, 115, 104]⟩) (h4 : s ≠ ⟨#[112, 97, 105, 114]⟩) (h5 : s ≠ ⟨#[115, 105, 103, 110]⟩) (h6 : s ≠ ⟨#[115, 104, 111, 114, 116]⟩) (h7 : s ≠ ⟨#[104, 105, 100, 101]⟩) (h8 : s ≠ ⟨#[115, 104, 97, 114, 101, 115]⟩) : Instr.findNow .string (.string s) (cmdE pb) 0 = some none := by
  unfold cmdE
  simp only [Instr.findNow, same_str s _ h0, same_str s _ h1, same_str s _ h2, same_str s _ h3, same_str s _ h4, same_str s _ h5, same_str s _ h6, same_str s _ h7, same_str s _ h8]
theorem kind_cases (s : ByteArray) : ((kindB s = 0) ∧ s ≠ ⟨#[98, 97, 115, 101]⟩ ∧ s ≠ ⟨#[108, 105, 102, 116]⟩ ∧ s ≠ ⟨#[111, 114, 100, 101, 114]⟩ ∧ s ≠ ⟨#[104, 97, 115, 104]⟩ ∧ s ≠ ⟨#[112, 97, 105, 114]⟩ ∧ s ≠ ⟨#[115, 105, 103, 110]⟩ ∧ s ≠ ⟨#[115, 104, 111, 114, 116]⟩ ∧ s ≠ ⟨#[104, 105, 100, 101]⟩ ∧ s ≠ ⟨#[115, 104, 97, 114, 101, 115]⟩) ∨ s = ⟨#[98, 97, 115, 101]⟩ ∨ s = ⟨#[108, 105, 102, 116]⟩ ∨ s = ⟨#[111, 114, 100, 101, 114]⟩ ∨ s = ⟨#[104, 97, 115, 104]⟩ ∨ s = ⟨#[112, 97, 105, 114]⟩ ∨ s = ⟨#[115, 105, 103, 110]⟩ ∨ s = ⟨#[115, 104, 111, 114, 116]⟩ ∨ s = ⟨#[104, 105, 100, 101]⟩ ∨ s = ⟨#[115, 104, 97, 114, 101, 115]⟩ := by
  by_cases h0 : s = ⟨#[98, 97, 115, 101]⟩
  · exact Or.inr (Or.inl h0)
  by_cases h1 : s = ⟨#[108, 105, 102, 116]⟩
  · exact Or.inr (Or.inr (Or.inl h1))
  by_cases h2 : s = ⟨#[111, 114, 100, 101, 114]⟩
  · exact Or.inr (Or.inr (Or.inr (Or.inl h2)))
  by_cases h3 : s = ⟨#[104, 97, 115, 104]⟩
  · exact Or.inr (Or.inr (Or.inr (Or.inr (Or.inl h3))))
  by_cases h4 : s = ⟨#[112, 97, 105, 114]⟩
  · exact Or.inr (Or.inr (Or.inr (Or.inr (Or.inr (Or.inl h4)))))
  by_cases h5 : s = ⟨#[115, 105, 103, 110]⟩
  · exact Or.inr (Or.inr (Or.inr (Or.inr (Or.inr (Or.inr (Or.inl h5))))))
  by_cases h6 : s = ⟨#[115, 104, 111, 114, 116]⟩
  · exact Or.inr (Or.inr (Or.inr (Or.inr (Or.inr (Or.inr (Or.inr (Or.inl h6)))))))
  by_cases h7 : s = ⟨#[104, 105, 100, 101]⟩
  · exact Or.inr (Or.inr (Or.inr (Or.inr (Or.inr (Or.inr (Or.inr (Or.inr (Or.inl h7))))))))
  by_cases h8 : s = ⟨#[115, 104, 97, 114, 101, 115]⟩
  · exact Or.inr (Or.inr (Or.inr (Or.inr (Or.inr (Or.inr (Or.inr (Or.inr (Or.inr (h8)))))))))
  refine Or.inl ⟨?_, h0, h1, h2, h3, h4, h5, h6, h7, h8⟩
  have e : ∀ l : List UInt8, s ≠ ⟨l.toArray⟩ → (s.toList == l) = false := fun l hl => by
    rw [beq_eq_false_iff_ne]
    intro q
    apply hl
    apply ByteArray.ext
    apply Array.ext'
    rw [← ByteArray.toList_eq, q]
  unfold kindB
  rw [e _ h0, e _ h1, e _ h2, e _ h4, e _ h7, e _ h8, e _ h3, e _ h6, e _ h5]
  rfl
set_option maxRecDepth 100000 in
set_option maxHeartbeats 4000000 in
theorem commands_is (w : World) : Calls Tryz.prog 12 #[] w fun e w' => ∃ mb pb : Nat, e = .returned (.map (some mb)) ∧ Cmds w' mb pb ∧ w.heap.size ≤ mb ∧ w.heap.size ≤ pb ∧ Below w.heap.size w w' := by
  have HB : Hid (∀ w, Calls Tryz.prog 10 #[] w fun e w' => e = .returned (.agg #[.int .i64 ((tM 4).1 : Int), .int .i64 ((tM 4).2.1 : Int), .bool (tM 4).2.2]) ∧ Below w.heap.size w w') := base_is
  have hmm := @run_makeMap Tryz.prog
  have m1 : True := trivial
  go_enter Tryz.func12, Tryz.ntmps12
  go_upto_region 2 with (go_at_call 10; clear m1; refine (HB.out _).mono ?_; rintro e w1 ⟨rfl, hbw1⟩; have hqw1 : Below w.heap.size w w1 := (below_by); have hzw1 := hqw1.size; clear hbw1)
  refine wp_gen (fun V => V.heap[w1.heap.size]? = some (.cells #[.int .i64 ((tM 4).1 : Int), .int .i64 ((tM 4).2.1 : Int), .bool (tM 4).2.2] 28 (0, 0)) ∧ Below w.heap.size w V) ⟨heap_new w1 _, below_by⟩ ?_
  rintro V ⟨kp, hqV⟩
  have hzV := hqV.size
  obtain ⟨pb, hpb⟩ : ∃ pb, w1.heap.size = pb := ⟨_, rfl⟩
  rw [hpb] at kp
  simp only [hpb]
  have hu0 : (Instr.mapUpdate 40 (.map (some V.heap.size)) (.string ⟨#[98, 97, 115, 101]⟩) (.agg #[.int .i64 1, .bool false, .func (.func 24) #[] #[.pointer (some ⟨pb, 0, none⟩)]])).run Tryz.prog (V.alloc (.map #[] 0)) = .ok () (V.alloc (.map #[{ key := .string ⟨#[98, 97, 115, 101]⟩, val := .agg #[.int .i64 1, .bool false, .func (.func 24) #[] #[.pointer (some ⟨pb, 0, none⟩)]], born := 0 }] 1)) := upd_new 40 9 65 [] 0 ⟨#[98, 97, 115, 101]⟩ _ Tryz.underlying40 Tryz.underlying9 (by kernel_rfl)
  have hu1 : (Instr.mapUpdate 40 (.map (some V.heap.size)) (.string ⟨#[108, 105, 102, 116]⟩) (.agg #[.int .i64 1, .bool false, .func (.func 26) #[] #[]])).run Tryz.prog (V.alloc (.map #[{ key := .string ⟨#[98, 97, 115, 101]⟩, val := .agg #[.int .i64 1, .bool false, .func (.func 24) #[] #[.pointer (some ⟨pb, 0, none⟩)]], born := 0 }] 1)) = .ok () (V.alloc (.map #[{ key := .string ⟨#[98, 97, 115, 101]⟩, val := .agg #[.int .i64 1, .bool false, .func (.func 24) #[] #[.pointer (some ⟨pb, 0, none⟩)]], born := 0 }, { key := .string ⟨#[108, 105, 102, 116]⟩, val := .agg #[.int .i64 1, .bool false, .func (.func 26) #[] #[]], born := 1 }] 2)) := upd_new 40 9 65 [{ key := .string ⟨#[98, 97, 115, 101]⟩, val := .agg #[.int .i64 1, .bool false, .func (.func 24) #[] #[.pointer (some ⟨pb, 0, none⟩)]], born := 0 }] 1 ⟨#[108, 105, 102, 116]⟩ _ Tryz.underlying40 Tryz.underlying9 (by kernel_rfl)
  have hu2 : (Instr.mapUpdate 40 (.map (some V.heap.size)) (.string ⟨#[111, 114, 100, 101, 114]⟩) (.agg #[.int .i64 1, .bool false, .func (.func 27) #[] #[.pointer (some ⟨pb, 0, none⟩)]])).run Tryz.prog (V.alloc (.map #[{ key := .string ⟨#[98, 97, 115, 101]⟩, val := .agg #[.int .i64 1, .bool false, .func (.func 24) #[] #[.pointer (some ⟨pb, 0, none⟩)]], born := 0 }, { key := .string ⟨#[108, 105, 102, 116]⟩, val := .agg #[.int .i64 1, .bool false, .func (.func 26) #[] #[]], born := 1 }] 2)) = .ok () (V.alloc (.map #[{ key := .string ⟨#[98, 97, 115, 101]⟩, val := .agg #[.int .i64 1, .bool false, .func (.func 24) #[] #[.pointer (some ⟨pb, 0, none⟩)]], born := 0 }, { key := .string ⟨#[108, 105, 102, 116]⟩, val := .agg #[.int .i64 1, .bool false, .func (.func 26) #[] #[]], born := 1 }, { key := .string ⟨#[111, 114, 100, 101, 114]⟩, val := .agg #[.int .i64 1, .bool false, .func (.func 27) #[] #[.pointer (some ⟨pb, 0, none⟩)]], born := 2 }] 3)) := upd_new 40 9 65 [{ key := .string ⟨#[98, 97, 115, 101]⟩, val := .agg #[.int .i64 1, .bool false, .func (.func 24) #[] #[.pointer (some ⟨pb, 0, none⟩)]], born := 0 }, { key := .string ⟨#[108, 105, 102, 116]⟩, val := .agg #[.int .i64 1, .bool false, .func (.func 26) #[] #[]], born := 1 }] 2 ⟨#[111, 114, 100, 101, 114]⟩ _ Tryz.underlying40 Tryz.underlying9 (by kernel_rfl)
  have hu3 : (Instr.mapUpdate 40 (.map (some V.heap.size)) (.string ⟨#[104, 97, 115, 104]⟩) (.agg #[.int .i64 0, .bool true, .func (.func 29) #[] #[]])).run Tryz.prog (V.alloc (.map #[{ key := .string ⟨#[98, 97, 115, 101]⟩, val := .agg #[.int .i64 1, .bool false, .func (.func 24) #[] #[.pointer (some ⟨pb, 0, none⟩)]], born := 0 }, { key := .string ⟨#[108, 105, 102, 116]⟩, val := .agg #[.int .i64 1, .bool false, .func (.func 26) #[] #[]], born := 1 }, { key := .string ⟨#[111, 114, 100, 101, 114]⟩, val := .agg #[.int .i64 1, .bool false, .func (.func 27) #[] #[.pointer (some ⟨pb, 0, none⟩)]], born := 2 }] 3)) = .ok () (V.alloc (.map #[{ key := .string ⟨#[98, 97, 115, 101]⟩, val := .agg #[.int .i64 1, .bool false, .func (.func 24) #[] #[.pointer (some ⟨pb, 0, none⟩)]], born := 0 }, { key := .string ⟨#[108, 105, 102, 116]⟩, val := .agg #[.int .i64 1, .bool false, .func (.func 26) #[] #[]], born := 1 }, { key := .string ⟨#[111, 114, 100, 101, 114]⟩, val := .agg #[.int .i64 1, .bool false, .func (.func 27) #[] #[.pointer (some ⟨pb, 0, none⟩)]], born := 2 }, { key := .string ⟨#[104, 97, 115, 104]⟩, val := .agg #[.int .i64 0, .bool true, .func (.func 29) #[] #[]], born := 3 }] 4)) := upd_new 40 9 65 [{ key := .string ⟨#[98, 97, 115, 101]⟩, val := .agg #[.int .i64 1, .bool false, .func (.func 24) #[] #[.pointer (some ⟨pb, 0, none⟩)]], born := 0 }, { key := .string ⟨#[108, 105, 102, 116]⟩, val := .agg #[.int .i64 1, .bool false, .func (.func 26) #[] #[]], born := 1 }, { key := .string ⟨#[111, 114, 100, 101, 114]⟩, val := .agg #[.int .i64 1, .bool false, .func (.func 27) #[] #[.pointer (some ⟨pb, 0, none⟩)]], born := 2 }] 3 ⟨#[104, 97, 115, 104]⟩ _ Tryz.underlying40 Tryz.underlying9 (by kernel_rfl)
  have hu4 : (Instr.mapUpdate 40 (.map (some V.heap.size)) (.string ⟨#[112, 97, 105, 114]⟩) (.agg #[.int .i64 2, .bool false, .func (.func 32) #[] #[.pointer (some ⟨pb, 0, none⟩)]])).run Tryz.prog (V.alloc (.map #[{ key := .string ⟨#[98, 97, 115, 101]⟩, val := .agg #[.int .i64 1, .bool false, .func (.func 24) #[] #[.pointer (some ⟨pb, 0, none⟩)]], born := 0 }, { key := .string ⟨#[108, 105, 102, 116]⟩, val := .agg #[.int .i64 1, .bool false, .func (.func 26) #[] #[]], born := 1 }, { key := .string ⟨#[111, 114, 100, 101, 114]⟩, val := .agg #[.int .i64 1, .bool false, .func (.func 27) #[] #[.pointer (some ⟨pb, 0, none⟩)]], born := 2 }, { key := .string ⟨#[104, 97, 115, 104]⟩, val := .agg #[.int .i64 0, .bool true, .func (.func 29) #[] #[]], born := 3 }] 4)) = .ok () (V.alloc (.map #[{ key := .string ⟨#[98, 97, 115, 101]⟩, val := .agg #[.int .i64 1, .bool false, .func (.func 24) #[] #[.pointer (some ⟨pb, 0, none⟩)]], born := 0 }, { key := .string ⟨#[108, 105, 102, 116]⟩, val := .agg #[.int .i64 1, .bool false, .func (.func 26) #[] #[]], born := 1 }, { key := .string ⟨#[111, 114, 100, 101, 114]⟩, val := .agg #[.int .i64 1, .bool false, .func (.func 27) #[] #[.pointer (some ⟨pb, 0, none⟩)]], born := 2 }, { key := .string ⟨#[104, 97, 115, 104]⟩, val := .agg #[.int .i64 0, .bool true, .func (.func 29) #[] #[]], born := 3 }, { key := .string ⟨#[112, 97, 105, 114]⟩, val := .agg #[.int .i64 2, .bool false, .func (.func 32) #[] #[.pointer (some ⟨pb, 0, none⟩)]], born := 4 }] 5)) := upd_new 40 9 65 [{ key := .string ⟨#[98, 97, 115, 101]⟩, val := .agg #[.int .i64 1, .bool false, .func (.func 24) #[] #[.pointer (some ⟨pb, 0, none⟩)]], born := 0 }, { key := .string ⟨#[108, 105, 102, 116]⟩, val := .agg #[.int .i64 1, .bool false, .func (.func 26) #[] #[]], born := 1 }, { key := .string ⟨#[111, 114, 100, 101, 114]⟩, val := .agg #[.int .i64 1, .bool false, .func (.func 27) #[] #[.pointer (some ⟨pb, 0, none⟩)]], born := 2 }, { key := .string ⟨#[104, 97, 115, 104]⟩, val := .agg #[.int .i64 0, .bool true, .func (.func 29) #[] #[]], born := 3 }] 4 ⟨#[112, 97, 105, 114]⟩ _ Tryz.underlying40 Tryz.underlying9 (by kernel_rfl)
  have hu5 : (Instr.mapUpdate 40 (.map (some V.heap.size)) (.string ⟨#[115, 105, 103, 110]⟩) (.agg #[.int .i64 2, .bool true, .func (.func 34) #[] #[]])).run Tryz.prog (V.alloc (.map #[{ key := .string ⟨#[98, 97, 115, 101]⟩, val := .agg #[.int .i64 1, .bool false, .func (.func 24) #[] #[.pointer (some ⟨pb, 0, none⟩)]], born := 0 }, { key := .string ⟨#[108, 105, 102, 116]⟩, val := .agg #[.int .i64 1, .bool false, .func (.func 26) #[] #[]], born := 1 }, { key := .string ⟨#[111, 114, 100, 101, 114]⟩, val := .agg #[.int .i64 1, .bool false, .func (.func 27) #[] #[.pointer (some ⟨pb, 0, none⟩)]], born := 2 }, { key := .string ⟨#[104, 97, 115, 104]⟩, val := .agg #[.int .i64 0, .bool true, .func (.func 29) #[] #[]], born := 3 }, { key := .string ⟨#[112, 97, 105, 114]⟩, val := .agg #[.int .i64 2, .bool false, .func (.func 32) #[] #[.pointer (some ⟨pb, 0, none⟩)]], born := 4 }] 5)) = .ok () (V.alloc (.map #[{ key := .string ⟨#[98, 97, 115, 101]⟩, val := .agg #[.int .i64 1, .bool false, .func (.func 24) #[] #[.pointer (some ⟨pb, 0, none⟩)]], born := 0 }, { key := .string ⟨#[108, 105, 102, 116]⟩, val := .agg #[.int .i64 1, .bool false, .func (.func 26) #[] #[]], born := 1 }, { key := .string ⟨#[111, 114, 100, 101, 114]⟩, val := .agg #[.int .i64 1, .bool false, .func (.func 27) #[] #[.pointer (some ⟨pb, 0, none⟩)]], born := 2 }, { key := .string ⟨#[104, 97, 115, 104]⟩, val := .agg #[.int .i64 0, .bool true, .func (.func 29) #[] #[]], born := 3 }, { key := .string ⟨#[112, 97, 105, 114]⟩, val := .agg #[.int .i64 2, .bool false, .func (.func 32) #[] #[.pointer (some ⟨pb, 0, none⟩)]], born := 4 }, { key := .string ⟨#[115, 105, 103, 110]⟩, val := .agg #[.int .i64 2, .bool true, .func (.func 34) #[] #[]], born := 5 }] 6)) := upd_new 40 9 65 [{ key := .string ⟨#[98, 97, 115, 101]⟩, val := .agg #[.int .i64 1, .bool false, .func (.func 24) #[] #[.pointer (some ⟨pb, 0, none⟩)]], born := 0 }, { key := .string ⟨#[108, 105, 102, 116]⟩, val := .agg #[.int .i64 1, .bool false, .func (.func 26) #[] #[]], born := 1 }, { key := .string ⟨#[111, 114, 100, 101, 114]⟩, val := .agg #[.int .i64 1, .bool false, .func (.func 27) #[] #[.pointer (some ⟨pb, 0, none⟩)]], born := 2 }, { key := .string ⟨#[104, 97, 115, 104]⟩, val := .agg #[.int .i64 0, .bool true, .func (.func 29) #[] #[]], born := 3 }, { key := .string ⟨#[112, 97, 105, 114]⟩, val := .agg #[.int .i64 2, .bool false, .func (.func 32) #[] #[.pointer (some ⟨pb, 0, none⟩)]], born := 4 }] 5 ⟨#[115, 105, 103, 110]⟩ _ Tryz.underlying40 Tryz.underlying9 (by kernel_rfl)
  have hu6 : (Instr.mapUpdate 40 (.map (some V.heap.size)) (.string ⟨#[115, 104, 111, 114, 116]⟩) (.agg #[.int .i64 1, .bool true, .func (.func 37) #[] #[]])).run Tryz.prog (V.alloc (.map #[{ key := .string ⟨#[98, 97, 115, 101]⟩, val := .agg #[.int .i64 1, .bool false, .func (.func 24) #[] #[.pointer (some ⟨pb, 0, none⟩)]], born := 0 }, { key := .string ⟨#[108, 105, 102, 116]⟩, val := .agg #[.int .i64 1, .bool false, .func (.func 26) #[] #[]], born := 1 }, { key := .string ⟨#[111, 114, 100, 101, 114]⟩, val := .agg #[.int .i64 1, .bool false, .func (.func 27) #[] #[.pointer (some ⟨pb, 0, none⟩)]], born := 2 }, { key := .string ⟨#[104, 97, 115, 104]⟩, val := .agg #[.int .i64 0, .bool true, .func (.func 29) #[] #[]], born := 3 }, { key := .string ⟨#[112, 97, 105, 114]⟩, val := .agg #[.int .i64 2, .bool false, .func (.func 32) #[] #[.pointer (some ⟨pb, 0, none⟩)]], born := 4 }, { key := .string ⟨#[115, 105, 103, 110]⟩, val := .agg #[.int .i64 2, .bool true, .func (.func 34) #[] #[]], born := 5 }] 6)) = .ok () (V.alloc (.map #[{ key := .string ⟨#[98, 97, 115, 101]⟩, val := .agg #[.int .i64 1, .bool false, .func (.func 24) #[] #[.pointer (some ⟨pb, 0, none⟩)]], born := 0 }, { key := .string ⟨#[108, 105, 102, 116]⟩, val := .agg #[.int .i64 1, .bool false, .func (.func 26) #[] #[]], born := 1 }, { key := .string ⟨#[111, 114, 100, 101, 114]⟩, val := .agg #[.int .i64 1, .bool false, .func (.func 27) #[] #[.pointer (some ⟨pb, 0, none⟩)]], born := 2 }, { key := .string ⟨#[104, 97, 115, 104]⟩, val := .agg #[.int .i64 0, .bool true, .func (.func 29) #[] #[]], born := 3 }, { key := .string ⟨#[112, 97, 105, 114]⟩, val := .agg #[.int .i64 2, .bool false, .func (.func 32) #[] #[.pointer (some ⟨pb, 0, none⟩)]], born := 4 }, { key := .string ⟨#[115, 105, 103, 110]⟩, val := .agg #[.int .i64 2, .bool true, .func (.func 34) #[] #[]], born := 5 }, { key := .string ⟨#[115, 104, 111, 114, 116]⟩, val := .agg #[.int .i64 1, .bool true, .func (.func 37) #[] #[]], born := 6 }] 7)) := upd_new 40 9 65 [{ key := .string ⟨#[98, 97, 115, 101]⟩, val := .agg #[.int .i64 1, .bool false, .func (.func 24) #[] #[.pointer (some ⟨pb, 0, none⟩)]], born := 0 }, { key := .string ⟨#[108, 105, 102, 116]⟩, val := .agg #[.int .i64 1, .bool false, .func (.func 26) #[] #[]], born := 1 }, { key := .string ⟨#[111, 114, 100, 101, 114]⟩, val := .agg #[.int .i64 1, .bool false, .func (.func 27) #[] #[.pointer (some ⟨pb, 0, none⟩)]], born := 2 }, { key := .string ⟨#[104, 97, 115, 104]⟩, val := .agg #[.int .i64 0, .bool true, .func (.func 29) #[] #[]], born := 3 }, { key := .string ⟨#[112, 97, 105, 114]⟩, val := .agg #[.int .i64 2, .bool false, .func (.func 32) #[] #[.pointer (some ⟨pb, 0, none⟩)]], born := 4 }, { key := .string ⟨#[115, 105, 103, 110]⟩, val := .agg #[.int .i64 2, .bool true, .func (.func 34) #[] #[]], born := 5 }] 6 ⟨#[115, 104, 111, 114, 116]⟩ _ Tryz.underlying40 Tryz.underlying9 (by kernel_rfl)
  have hu7 : (Instr.mapUpdate 40 (.map (some V.heap.size)) (.string ⟨#[104, 105, 100, 101]⟩) (.agg #[.int .i64 2, .bool false, .func (.func 39) #[] #[]])).run Tryz.prog (V.alloc (.map #[{ key := .string ⟨#[98, 97, 115, 101]⟩, val := .agg #[.int .i64 1, .bool false, .func (.func 24) #[] #[.pointer (some ⟨pb, 0, none⟩)]], born := 0 }, { key := .string ⟨#[108, 105, 102, 116]⟩, val := .agg #[.int .i64 1, .bool false, .func (.func 26) #[] #[]], born := 1 }, { key := .string ⟨#[111, 114, 100, 101, 114]⟩, val := .agg #[.int .i64 1, .bool false, .func (.func 27) #[] #[.pointer (some ⟨pb, 0, none⟩)]], born := 2 }, { key := .string ⟨#[104, 97, 115, 104]⟩, val := .agg #[.int .i64 0, .bool true, .func (.func 29) #[] #[]], born := 3 }, { key := .string ⟨#[112, 97, 105, 114]⟩, val := .agg #[.int .i64 2, .bool false, .func (.func 32) #[] #[.pointer (some ⟨pb, 0, none⟩)]], born := 4 }, { key := .string ⟨#[115, 105, 103, 110]⟩, val := .agg #[.int .i64 2, .bool true, .func (.func 34) #[] #[]], born := 5 }, { key := .string ⟨#[115, 104, 111, 114, 116]⟩, val := .agg #[.int .i64 1, .bool true, .func (.func 37) #[] #[]], born := 6 }] 7)) = .ok () (V.alloc (.map #[{ key := .string ⟨#[98, 97, 115, 101]⟩, val := .agg #[.int .i64 1, .bool false, .func (.func 24) #[] #[.pointer (some ⟨pb, 0, none⟩)]], born := 0 }, { key := .string ⟨#[108, 105, 102, 116]⟩, val := .agg #[.int .i64 1, .bool false, .func (.func 26) #[] #[]], born := 1 }, { key := .string ⟨#[111, 114, 100, 101, 114]⟩, val := .agg #[.int .i64 1, .bool false, .func (.func 27) #[] #[.pointer (some ⟨pb, 0, none⟩)]], born := 2 }, { key := .string ⟨#[104, 97, 115, 104]⟩, val := .agg #[.int .i64 0, .bool true, .func (.func 29) #[] #[]], born := 3 }, { key := .string ⟨#[112, 97, 105, 114]⟩, val := .agg #[.int .i64 2, .bool false, .func (.func 32) #[] #[.pointer (some ⟨pb, 0, none⟩)]], born := 4 }, { key := .string ⟨#[115, 105, 103, 110]⟩, val := .agg #[.int .i64 2, .bool true, .func (.func 34) #[] #[]], born := 5 }, { key := .string ⟨#[115, 104, 111, 114, 116]⟩, val := .agg #[.int .i64 1, .bool true, .func (.func 37) #[] #[]], born := 6 }, { key := .string ⟨#[104, 105, 100, 101]⟩, val := .agg #[.int .i64 2, .bool false, .func (.func 39) #[] #[]], born := 7 }] 8)) := upd_new 40 9 65 [{ key := .string ⟨#[98, 97, 115, 101]⟩, val := .agg #[.int .i64 1, .bool false, .func (.func 24) #[] #[.pointer (some ⟨pb, 0, none⟩)]], born := 0 }, { key := .string ⟨#[108, 105, 102, 116]⟩, val := .agg #[.int .i64 1, .bool false, .func (.func 26) #[] #[]], born := 1 }, { key := .string ⟨#[111, 114, 100, 101, 114]⟩, val := .agg #[.int .i64 1, .bool false, .func (.func 27) #[] #[.pointer (some ⟨pb, 0, none⟩)]], born := 2 }, { key := .string ⟨#[104, 97, 115, 104]⟩, val := .agg #[.int .i64 0, .bool true, .func (.func 29) #[] #[]], born := 3 }, { key := .string ⟨#[112, 97, 105, 114]⟩, val := .agg #[.int .i64 2, .bool false, .func (.func 32) #[] #[.pointer (some ⟨pb, 0, none⟩)]], born := 4 }, { key := .string ⟨#[115, 105, 103, 110]⟩, val := .agg #[.int .i64 2, .bool true, .func (.func 34) #[] #[]], born := 5 }, { key := .string ⟨#[115, 104, 111, 114, 116]⟩, val := .agg #[.int .i64 1, .bool true, .func (.func 37) #[] #[]], born := 6 }] 7 ⟨#[104, 105, 100, 101]⟩ _ Tryz.underlying40 Tryz.underlying9 (by kernel_rfl)
  have hu8 : (Instr.mapUpdate 40 (.map (some V.heap.size)) (.string ⟨#[115, 104, 97, 114, 101, 115]⟩) (.agg #[.int .i64 3, .bool false, .func (.func 41) #[] #[]])).run Tryz.prog (V.alloc (.map #[{ key := .string ⟨#[98, 97, 115, 101]⟩, val := .agg #[.int .i64 1, .bool false, .func (.func 24) #[] #[.pointer (some ⟨pb, 0, none⟩)]], born := 0 }, { key := .string ⟨#[108, 105, 102, 116]⟩, val := .agg #[.int .i64 1, .bool false, .func (.func 26) #[] #[]], born := 1 }, { key := .string ⟨#[111, 114, 100, 101, 114]⟩, val := .agg #[.int .i64 1, .bool false, .func (.func 27) #[] #[.pointer (some ⟨pb, 0, none⟩)]], born := 2 }, { key := .string ⟨#[104, 97, 115, 104]⟩, val := .agg #[.int .i64 0, .bool true, .func (.func 29) #[] #[]], born := 3 }, { key := .string ⟨#[112, 97, 105, 114]⟩, val := .agg #[.int .i64 2, .bool false, .func (.func 32) #[] #[.pointer (some ⟨pb, 0, none⟩)]], born := 4 }, { key := .string ⟨#[115, 105, 103, 110]⟩, val := .agg #[.int .i64 2, .bool true, .func (.func 34) #[] #[]], born := 5 }, { key := .string ⟨#[115, 104, 111, 114, 116]⟩, val := .agg #[.int .i64 1, .bool true, .func (.func 37) #[] #[]], born := 6 }, { key := .string ⟨#[104, 105, 100, 101]⟩, val := .agg #[.int .i64 2, .bool false, .func (.func 39) #[] #[]], born := 7 }] 8)) = .ok () (V.alloc (.map #[{ key := .string ⟨#[98, 97, 115, 101]⟩, val := .agg #[.int .i64 1, .bool false, .func (.func 24) #[] #[.pointer (some ⟨pb, 0, none⟩)]], born := 0 }, { key := .string ⟨#[108, 105, 102, 116]⟩, val := .agg #[.int .i64 1, .bool false, .func (.func 26) #[] #[]], born := 1 }, { key := .string ⟨#[111, 114, 100, 101, 114]⟩, val := .agg #[.int .i64 1, .bool false, .func (.func 27) #[] #[.pointer (some ⟨pb, 0, none⟩)]], born := 2 }, { key := .string ⟨#[104, 97, 115, 104]⟩, val := .agg #[.int .i64 0, .bool true, .func (.func 29) #[] #[]], born := 3 }, { key := .string ⟨#[112, 97, 105, 114]⟩, val := .agg #[.int .i64 2, .bool false, .func (.func 32) #[] #[.pointer (some ⟨pb, 0, none⟩)]], born := 4 }, { key := .string ⟨#[115, 105, 103, 110]⟩, val := .agg #[.int .i64 2, .bool true, .func (.func 34) #[] #[]], born := 5 }, { key := .string ⟨#[115, 104, 111, 114, 116]⟩, val := .agg #[.int .i64 1, .bool true, .func (.func 37) #[] #[]], born := 6 }, { key := .string ⟨#[104, 105, 100, 101]⟩, val := .agg #[.int .i64 2, .bool false, .func (.func 39) #[] #[]], born := 7 }, { key := .string ⟨#[115, 104, 97, 114, 101, 115]⟩, val := .agg #[.int .i64 3, .bool false, .func (.func 41) #[] #[]], born := 8 }] 9)) := upd_new 40 9 65 [{ key := .string ⟨#[98, 97, 115, 101]⟩, val := .agg #[.int .i64 1, .bool false, .func (.func 24) #[] #[.pointer (some ⟨pb, 0, none⟩)]], born := 0 }, { key := .string ⟨#[108, 105, 102, 116]⟩, val := .agg #[.int .i64 1, .bool false, .func (.func 26) #[] #[]], born := 1 }, { key := .string ⟨#[111, 114, 100, 101, 114]⟩, val := .agg #[.int .i64 1, .bool false, .func (.func 27) #[] #[.pointer (some ⟨pb, 0, none⟩)]], born := 2 }, { key := .string ⟨#[104, 97, 115, 104]⟩, val := .agg #[.int .i64 0, .bool true, .func (.func 29) #[] #[]], born := 3 }, { key := .string ⟨#[112, 97, 105, 114]⟩, val := .agg #[.int .i64 2, .bool false, .func (.func 32) #[] #[.pointer (some ⟨pb, 0, none⟩)]], born := 4 }, { key := .string ⟨#[115, 105, 103, 110]⟩, val := .agg #[.int .i64 2, .bool true, .func (.func 34) #[] #[]], born := 5 }, { key := .string ⟨#[115, 104, 111, 114, 116]⟩, val := .agg #[.int .i64 1, .bool true, .func (.func 37) #[] #[]], born := 6 }, { key := .string ⟨#[104, 105, 100, 101]⟩, val := .agg #[.int .i64 2, .bool false, .func (.func 39) #[] #[]], born := 7 }] 8 ⟨#[115, 104, 97, 114, 101, 115]⟩ _ Tryz.underlying40 Tryz.underlying9 (by kernel_rfl)
  have HC : Hid (∀ mb, mb = V.heap.size → Cmds (V.alloc (.map (cmdE pb).toArray 9)) mb pb) := fun mb h => ⟨by rw [h]; exact heap_new V _, (Below.block ((Below.refl _ V).alloc (Nat.le_refl _) (.map (cmdE pb).toArray 9)) pb (Array.getElem?_eq_some_iff.1 kp).1).trans kp⟩
  have HQ : Hid (Below w.heap.size w (V.alloc (.map (cmdE pb).toArray 9))) := hqV.alloc hzV _
  have HZ : Hid (w.heap.size ≤ V.heap.size) := hzV
  have HZP : Hid (w.heap.size ≤ pb) := by unfold Hid; omega
  clear kp hpb hqV hzV
  go_wp2_with fail
  go_ret
  exact ⟨V.heap.size, pb, rfl, HC.out _ rfl, HZ.out, HZP.out, HQ.out⟩
end Go.Proofs.YtgngdabfmbipaakGreatDoor

/- What package run answers to one line: read, done, answer. -/
namespace Go.Proofs.YtgngdabfmbipaakGreatDoor
open Go.RowKit Go.Sort Go.Shelf
set_option linter.unusedVariables false
set_option linter.unusedSimpArgs false
/-- What command.read answers. -/
def ReadB (R : Option (List Nat × ByteArray)) (a : Addr) (nb : Nat) (w w' : World) (e : Ending) : Prop :=
  (R = none ∧ e = .returned (.tuple #[.agg #[.slice none 0 0, .string ⟨#[]⟩], .iface 214 (.pointer (some a))])) ∨ ∃ (K : Nat → Nat) (v : Value) (t : ByteArray), R = some ((List.range nb).map K, t) ∧ (∀ j, j < nb → K j ≤ 9999) ∧ t.size ≤ 3000 ∧ e = .returned (.tuple #[.agg #[v, .string t], .nilIface]) ∧ GotN w w' v nb K
theorem nums_to (l : List ByteArray) (nb : Nat) : ∃ J, J ≤ nb ∧ (∀ j, j < J → numB (l.getD j ⟨#[]⟩) = some ((numB (l.getD j ⟨#[]⟩)).getD 0)) ∧ (J = nb ∨ numB (l.getD J ⟨#[]⟩) = none) := by
  induction nb with
  | zero => exact ⟨0, Nat.le_refl _, fun j hj => absurd hj (Nat.not_lt_zero _), Or.inl rfl⟩
  | succ n ih =>
    obtain ⟨J, h1, h2, h3⟩ := ih
    rcases h3 with rfl | h3
    · cases hn : numB (l.getD J ⟨#[]⟩) with
      | none => exact ⟨J, by omega, h2, Or.inr hn⟩
      | some k =>
        refine ⟨J + 1, by omega, fun j hj => ?_, Or.inl rfl⟩
        by_cases e : j < J
        · exact h2 j e
        · obtain rfl : j = J := by omega
          rw [hn]
          rfl
    · exact ⟨J, by omega, h2, Or.inr h3⟩
theorem getD_cons (x : ByteArray) (l : List ByteArray) (j : Nat) : (x :: l).getD (1 + j) ⟨#[]⟩ = l.getD j ⟨#[]⟩ := by rw [Nat.add_comm]; rfl
theorem read_t (a : Addr) (nb : Nat) (fv : Value) (s : ByteArray) (w : World) (h : Lie a w) (hs : s.size ≤ 3000) (hn : nb ≤ 3) :
    Calls Tryz.prog 87 #[.agg #[.int .i64 (nb : Int), .bool true, fv], .string s] w fun e w' => ReadB (readN nb true (tailW (nb) (wordM s) (wordR s))) a nb w w' e ∧ Below w.heap.size w w' := by
  obtain ⟨L, hL⟩ : ∃ L, tailW (nb) (wordM s) (wordR s) = L := ⟨_, rfl⟩
  have hW : splitW (nb + 2 - 1) s = wordA s :: L := by
    rw [← hL, show nb + 2 - 1 = nb + 1 by omega]
    exact splitW_tail _ s
  have hlen := (splitW_len (nb + 2 - 1) s).2
  rw [hW, List.length_cons] at hlen
  rw [hL]
  by_cases hq : L.length = nb + (true : Bool).toNat
  · obtain ⟨J, hJ, hg, he⟩ := nums_to L nb
    have hsz : ∀ j, j < L.length → (L.getD j ⟨#[]⟩).size ≤ 3000 := fun j hj => by
      have := splitW_size (nb + 2 - 1) s (L.getD j ⟨#[]⟩) (by rw [hW, List.getD_eq_getElem?_getD, List.getElem?_eq_getElem hj]; exact List.mem_cons_of_mem _ (List.getElem_mem _))
      omega
    refine (read_full_t a nb (nb + 2) J (fun j => (numB (L.getD j ⟨#[]⟩)).getD 0) fv s (wordA s :: L) (L.getD nb ⟨#[]⟩) w h hs hn hW (by rw [List.length_cons, hq]; rfl) rfl (by rw [Nat.add_comm, getD_cons]) (by omega) hJ (fun j hj => by rw [getD_cons]; exact hg j hj) (by rw [getD_cons]; exact he)).mono ?_
    rintro e w' ⟨hr, k⟩
    refine ⟨?_, k⟩
    rcases hr with ⟨h2, rfl⟩ | ⟨rfl, v, rfl, hgot⟩
    · exact Or.inl ⟨readN_no nb true L J h2 (by omega) (he.resolve_left (by omega)), rfl⟩
    · refine Or.inr ⟨_, v, _, readN_some J true L _ hg hq, fun j hj => (num_is (hg j hj)).1, ?_, rfl, hgot⟩
      exact hsz J (by rw [hq]; show J < J + 1; omega)
  · have hlt : (wordA s :: L).length < nb + 2 := by
      have hq' : L.length ≠ nb + 1 := hq
      rw [List.length_cons]
      omega
    refine (read_short_t a nb _ fv s (wordA s :: L) w h hs hn hW rfl hlt).mono ?_
    rintro e w' ⟨rfl, k⟩
    exact ⟨Or.inl ⟨readN_short nb true L hq, rfl⟩, k⟩
theorem read_n (a : Addr) (nb : Nat) (fv : Value) (s : ByteArray) (w : World) (h : Lie a w) (hs : s.size ≤ 3000) (hn : nb ≤ 3) (h1 : 1 ≤ nb) :
    Calls Tryz.prog 87 #[.agg #[.int .i64 (nb : Int), .bool false, fv], .string s] w fun e w' => ReadB (readN nb false (tailW (nb - 1) (wordM s) (wordR s))) a nb w w' e ∧ Below w.heap.size w w' := by
  obtain ⟨L, hL⟩ : ∃ L, tailW (nb - 1) (wordM s) (wordR s) = L := ⟨_, rfl⟩
  have hW : splitW (nb + 1 - 1) s = wordA s :: L := by
    rw [← hL, show nb + 1 - 1 = nb - 1 + 1 by omega]
    exact splitW_tail _ s
  have hlen := (splitW_len (nb + 1 - 1) s).2
  rw [hW, List.length_cons] at hlen
  rw [hL]
  by_cases hq : L.length = nb + (false : Bool).toNat
  · obtain ⟨J, hJ, hg, he⟩ := nums_to L nb
    have hsz : ∀ j, j < L.length → (L.getD j ⟨#[]⟩).size ≤ 3000 := fun j hj => by
      have := splitW_size (nb + 1 - 1) s (L.getD j ⟨#[]⟩) (by rw [hW, List.getD_eq_getElem?_getD, List.getElem?_eq_getElem hj]; exact List.mem_cons_of_mem _ (List.getElem_mem _))
      omega
    refine (read_full_n a nb (nb + 1) J (fun j => (numB (L.getD j ⟨#[]⟩)).getD 0) fv s (wordA s :: L) (⟨#[]⟩) w h hs hn hW (by rw [List.length_cons, hq]; rfl) rfl rfl (by omega) hJ (fun j hj => by rw [getD_cons]; exact hg j hj) (by rw [getD_cons]; exact he)).mono ?_
    rintro e w' ⟨hr, k⟩
    refine ⟨?_, k⟩
    rcases hr with ⟨h2, rfl⟩ | ⟨rfl, v, rfl, hgot⟩
    · exact Or.inl ⟨readN_no nb false L J h2 (by omega) (he.resolve_left (by omega)), rfl⟩
    · refine Or.inr ⟨_, v, _, readN_some J false L _ hg hq, fun j hj => (num_is (hg j hj)).1, ?_, rfl, hgot⟩
      exact Nat.zero_le _
  · have hlt : (wordA s :: L).length < nb + 1 := by
      have hq' : L.length ≠ nb + 0 := hq
      rw [List.length_cons]
      omega
    refine (read_short_n a nb _ fv s (wordA s :: L) w h hs hn hW rfl hlt).mono ?_
    rintro e w' ⟨rfl, k⟩
    exact ⟨Or.inl ⟨readN_short nb false L hq, rfl⟩, k⟩
end Go.Proofs.YtgngdabfmbipaakGreatDoor
