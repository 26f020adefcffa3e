/-
  Disk: the program's calls on a disk of one's own; lives.
-/
import Derived.Test.YtplanmiggeghfaaDB
import Derived.Test.YtplanmiggeghfaaDE
import Derived.Shelf.Abstract
import Derived.Lib.SlBytesConst
namespace Go.Proofs.Ytplanmiggeghfaa
open Go.RowKit Go Go.Sort Go.Maps Go.WideMaps
set_option linter.unusedVariables false
set_option maxRecDepth 20000

/-- A disk whose memory is behind w0's. -/
def Lv (w0 W : World) (q : Nat) (st : Ds) : Prop := ∃ F, Dk W q st F ∧ (∀ k, F k → w0.heap.size ≤ k) ∧ Below w0.heap.size w0 W
def LvP (w0 : World) (q : Nat) (st : Ds) (v : Value) (e : Ending) (W : World) : Prop := e = .returned v ∧ Lv w0 W q st
section
variable {w0 w w' : World} {q : Nat} {st st' : Ds}
theorem Lv.b (h : Lv w0 w q st) : Below w0.heap.size w0 w := by obtain ⟨F, -, -, hb⟩ := h; exact hb
theorem Lv.post {v : Value} {e : Ending} {F : Nat → Prop} (hlo : ∀ k, F k → w0.heap.size ≤ k) (hb : Below w0.heap.size w0 w) (h : DPost q F v st' w e w') : LvP w0 q st' v e w' := by
  obtain ⟨he, F', hk, ht, hf⟩ := h
  exact ⟨he, F', hk, fun k hk => (hf k hk).elim (hlo k) (fun h => Nat.le_trans hb.size h), hb.trans (ht.base hb.size hlo)⟩
theorem Lv.keep (h : Lv w0 w q st) (hb : Below w.heap.size w w') : Lv w0 w' q st := by
  obtain ⟨F, hk, hlo, hb0⟩ := h
  exact ⟨F, hk.below hb, hlo, hb0.trans (hb.mono hb0.size)⟩
theorem lv_new (room : Int) (w : World) (h0 : 0 ≤ room) (h1 : room ≤ 1073741824) : Calls Try.prog 11 #[.int .i64 room] w (fun e w' => ∃ q, e = .returned (.pointer (some ⟨q, 0, none⟩)) ∧ Lv w w' q (Ds.new room)) :=
  (dnew_c room w h0 h1).mono fun e w' ⟨q, he, F, hk, hlo, hb⟩ => ⟨q, he, F, hk, hlo, hb⟩
theorem lv_append (h : Lv w0 w q st) {s : ByteArray} {nm : List UInt8} (hs : s = text nm) (hn : nm.length ≤ 9223372036854775807) {ab : Option Addr} {bl cb : Nat} {l : List UInt8} (hbl : Bys w ab bl cb l) (hl : l.length ≤ 1000000) (hx : ∀ F, Dk w q st F → (∀ k, F k → w0.heap.size ≤ k) → 0 < bl → ∀ b off, ab = some ⟨b, off, none⟩ → ¬ F b) {r : Int} (heq : st.append nm l = (r, st')) : Calls Try.prog 28 #[.pointer (some ⟨q, 0, none⟩), .string s, .slice ab bl cb] w (LvP w0 q st' (.int .i64 r)) := by
  subst hs
  obtain ⟨F, hk, hlo, hb⟩ := h
  have := dappend_c hk nm hn hbl hl (hx F hk hlo)
  rw [heq] at this
  exact this.mono fun e w' hp => Lv.post hlo hb hp
theorem lv_make (h : Lv w0 w q st) {s : ByteArray} {nm : List UInt8} (hs : s = text nm) (hn : nm.length ≤ 9223372036854775807) {r : Int} (heq : st.make nm = (r, st')) : Calls Try.prog 27 #[.pointer (some ⟨q, 0, none⟩), .string s] w (LvP w0 q st' (.int .i64 r)) := by
  subst hs
  obtain ⟨F, hk, hlo, hb⟩ := h
  have := dmake_c hk nm hn
  rw [heq] at this
  exact this.mono fun e w' hp => Lv.post hlo hb hp
theorem lv_sync (h : Lv w0 w q st) {s : ByteArray} {nm : List UInt8} (hs : s = text nm) (hn : nm.length ≤ 9223372036854775807) {r : Int} (heq : st.sync nm = (r, st')) : Calls Try.prog 29 #[.pointer (some ⟨q, 0, none⟩), .string s] w (LvP w0 q st' (.int .i64 r)) := by
  subst hs
  obtain ⟨F, hk, hlo, hb⟩ := h
  have := dsync_c hk nm hn
  rw [heq] at this
  exact this.mono fun e w' hp => Lv.post hlo hb hp
theorem lv_drop (h : Lv w0 w q st) {s : ByteArray} {nm : List UInt8} (hs : s = text nm) (hn : nm.length ≤ 9223372036854775807) {r : Int} (heq : st.drop nm = (r, st')) : Calls Try.prog 26 #[.pointer (some ⟨q, 0, none⟩), .string s] w (LvP w0 q st' (.int .i64 r)) := by
  subst hs
  obtain ⟨F, hk, hlo, hb⟩ := h
  have := ddrop_c hk nm hn
  rw [heq] at this
  exact this.mono fun e w' hp => Lv.post hlo hb hp
theorem lv_cut (h : Lv w0 w q st) {s : ByteArray} {nm : List UInt8} (hs : s = text nm) (hn : nm.length ≤ 9223372036854775807) {n : Int} {r : Int} (heq : st.cut nm n = (r, st')) : Calls Try.prog 51 #[.pointer (some ⟨q, 0, none⟩), .string s, .int .i64 n] w (LvP w0 q st' (.int .i64 r)) := by
  subst hs
  obtain ⟨F, hk, hlo, hb⟩ := h
  have := dcut_c hk nm hn n
  rw [heq] at this
  exact this.mono fun e w' hp => Lv.post hlo hb hp
theorem lv_fail (h : Lv w0 w q st) {n : Int} {r : Int} (heq : st.fail n = (r, st')) : Calls Try.prog 22 #[.pointer (some ⟨q, 0, none⟩), .int .i64 n] w (LvP w0 q st' (.int .i64 r)) := by
  obtain ⟨F, hk, hlo, hb⟩ := h
  have := dfail_c hk n
  rw [heq] at this
  exact this.mono fun e w' hp => Lv.post hlo hb hp
theorem lv_power (h : Lv w0 w q st) (heq : st.power = st') : Calls Try.prog 24 #[.pointer (some ⟨q, 0, none⟩)] w (LvP w0 q st' (.int .i64 0)) := by
  obtain ⟨F, hk, hlo, hb⟩ := h
  have := dpower_c hk
  rw [heq] at this
  exact this.mono fun e w' hp => Lv.post hlo hb hp
theorem lv_on (h : Lv w0 w q st) : Calls Try.prog 47 #[.pointer (some ⟨q, 0, none⟩)] w (fun e w' => e = .returned (.bool st.on) ∧ w = w') := by
  obtain ⟨F, ⟨m, pv, FS, h, rfl⟩, hlo, hb⟩ := h
  exact don_c h
theorem lv_ops (h : Lv w0 w q st) : Calls Try.prog 58 #[.pointer (some ⟨q, 0, none⟩)] w (fun e w' => e = .returned (.int .i64 st.ops) ∧ w = w') := by
  obtain ⟨F, ⟨m, pv, FS, h, rfl⟩, hlo, hb⟩ := h
  exact dops_c h
theorem lv_fails (h : Lv w0 w q st) : Calls Try.prog 33 #[.pointer (some ⟨q, 0, none⟩)] w (fun e w' => e = .returned (.int .i64 st.fails) ∧ w = w') := by
  obtain ⟨F, ⟨m, pv, FS, h, rfl⟩, hlo, hb⟩ := h
  exact dfails_c h
theorem lv_used (h : Lv w0 w q st) : Calls Try.prog 56 #[.pointer (some ⟨q, 0, none⟩)] w (LvP w0 q st (.int .i64 (usedF st.F : Int))) := by
  obtain ⟨F, ⟨m, pv, FS, h, rfl⟩, hlo, hb⟩ := h
  exact (dused_c h).mono fun e w' hp => ⟨hp.1, _, ⟨m, pv, FS, h.below hp.2, rfl⟩, hlo, hb.trans (hp.2.mono hb.size)⟩
theorem lv_read (h : Lv w0 w q st) {s : ByteArray} {nm : List UInt8} (hs : s = text nm) (hn : nm.length ≤ 9223372036854775807) {r : Int} {b : Option (List UInt8)} (heq : st.read nm = (b, r)) : Calls Try.prog 19 #[.pointer (some ⟨q, 0, none⟩), .string s] w (fun e w' => ReadPost w b r e w' ∧ Lv w0 w' q st) := by
  subst hs
  have hL := h
  obtain ⟨F, hk, hlo, hb⟩ := h
  have := dread_c hk nm hn
  rw [heq] at this
  exact this.mono fun e w' hp => ⟨hp, by obtain ⟨v, -, h2, -⟩ := hp; exact hL.keep h2⟩
end
def dL0 : Ds := ⟨100, [], true, 0, 0, false, 0, 0⟩
def dL1 : Ds := ⟨100, [⟨[97], [], 0⟩], true, 1, 0, false, 0, 0⟩
def dL2 : Ds := ⟨100, [⟨[97], [97, 98], 0⟩], true, 2, 0, false, 0, 0⟩
def dL3 : Ds := ⟨100, [⟨[97], [97, 98], 2⟩], true, 3, 0, false, 0, 0⟩
def dL4 : Ds := ⟨100, [⟨[97], [97, 98, 99, 100], 2⟩], true, 4, 0, false, 0, 0⟩
def dL5 : Ds := ⟨100, [⟨[97], [97, 98, 99], 3⟩], false, 4, 1, false, 0, 0⟩
def dL6 : Ds := ⟨100, [⟨[97], [97, 98, 99], 3⟩], true, 4, 1, false, 0, 0⟩
theorem dlA : (⟨#[97]⟩ : ByteArray) = text [97] := rfl
theorem dlN : ([97] : List UInt8).length ≤ 9223372036854775807 := by decide
theorem dlC : (#[.int .u8 97, .int .u8 98] : Array Value) = #[.int .u8 ((97 : UInt8).toNat : Int), .int .u8 ((98 : UInt8).toNat : Int)] := rfl
theorem dlD : (#[.int .u8 99, .int .u8 100] : Array Value) = #[.int .u8 ((99 : UInt8).toNat : Int), .int .u8 ((100 : UInt8).toNat : Int)] := rfl
theorem dl0 : Ds.new 100 = dL0 := rfl
theorem dl1 : dL0.make [97] = (0, dL1) := rfl
theorem dl2 : dL1.append [97] [97, 98] = (0, dL2) := rfl
theorem dl3 : dL2.sync [97] = (0, dL3) := rfl
theorem dl4 : dL3.append [97] [99, 100] = (0, dL4) := rfl
theorem dl5 : dL4.fail 1 = (0, dL5) := rfl
theorem dl6 : dL5.power = dL6 := rfl
theorem dl7 : dL6.read [97] = (some [97, 98, 99], 0) := rfl
theorem pair_bys (w : World) (x y : UInt8) (m : Nat × Nat) : Bys (w.alloc (.cells #[.int .u8 (x.toNat : Int), .int .u8 (y.toNat : Int)] 5 m)) (some ⟨w.heap.size, 0, none⟩) 2 2 [x, y] := by
  refine ⟨rfl, Nat.le_refl _, by omega, .inr ⟨w.heap.size, 0, rfl, fun i hi => ?_⟩⟩
  have h : (w.alloc (.cells #[.int .u8 (x.toNat : Int), .int .u8 (y.toNat : Int)] 5 m)).heap[w.heap.size]? = some (.cells #[.int .u8 (x.toNat : Int), .int .u8 (y.toNat : Int)] 5 m) := by
    show (w.heap.push _)[w.heap.size]? = _
    simp
  unfold World.cell?
  rw [h]
  rcases (by omega : i = 0 ∨ i = 1) with rfl | rfl <;> rfl
theorem dl_conv {w : World} {a : Option Addr} {c : Nat} (h : Bys w a ([97, 98, 99] : List UInt8).length c [97, 98, 99]) : (convert 30 9 (.slice a 3 c)).run Try.prog w = .ok (.string ⟨#[97, 98, 99]⟩) w := conv_bys h Try.underlying30 Try.underlying5 Try.underlying9
theorem Lv.fresh {w0 w w' : World} {q b : Nat} {st : Ds} (h : Lv w0 w q st) (hb : Below w.heap.size w w') : w.heap.size ≤ w'.heap.size := hb.size
theorem lv_append_new {w0 w : World} {q b : Nat} (x y : UInt8) {st st' : Ds} (h : Lv w0 w q st) {s : ByteArray} (hs : s = text [97]) {r : Int} {m : Nat × Nat} {C : Array Value} (hC : C = #[.int .u8 (x.toNat : Int), .int .u8 (y.toNat : Int)]) (hb : w.heap.size = b) (heq : st.append [97] [x, y] = (r, st')) :
    Calls Try.prog 28 #[.pointer (some ⟨q, 0, none⟩), .string s, .slice (some ⟨b, 0, none⟩) 2 2] (w.alloc (.cells C 5 m)) (LvP w0 q st' (.int .i64 r)) := by
  subst hb
  subst hC
  have hL := h
  obtain ⟨F, hk, hlo, hb0⟩ := h
  have hab := alloc_below w (.cells #[.int .u8 (x.toNat : Int), .int .u8 (y.toNat : Int)] 5 m)
  have h2 := dappend_c (hk.below hab) [97] (by decide) (pair_bys w x y m) (by show 2 ≤ 1000000; omega) (by rintro - b off h hF; injection h with h; injection h with h; have := hk.lt hF; omega)
  subst hs
  rw [heq] at h2
  exact h2.mono fun e w' hp => Lv.post hlo (hb0.trans (hab.mono hb0.size)) hp
set_option maxRecDepth 100000 in
set_option maxHeartbeats 3200000 in
theorem dlives_c (w : World) : Calls Try.prog 16 #[] w (Tells (.bool true) w) := by
  have kc := fun (w : World) (C : Array Value) (n c : Nat) => Lib.run_convert_bytes_const (P := Try.prog) w 30 5 C n c Try.underlying30 Try.underlying5
  go_enter Try.func16, Try.ntmps16
  go_wp2_with (first
    | (go_at_call 11; (with_reducible refine (lv_new 100 _ (by omega) (by omega)).mono ?_); rintro e1 w1 ⟨q, rfl, hl1⟩; rw [dl0] at hl1; have HL := Lib.hid hl1; clear hl1)
    | (go_at_call 27; (with_reducible refine (lv_make HL.out dlA dlN dl1).mono ?_); rintro e2 w2 ⟨rfl, hl2⟩; have HL := Lib.hid hl2; clear hl2)
    | (go_at_call 28; (with_reducible refine (lv_append_new 97 98 HL.out dlA dlC rfl dl2).mono ?_); rintro e3 w3 ⟨rfl, hl3⟩; have HL := Lib.hid hl3; clear hl3)
    | (go_at_call 29; (with_reducible refine (lv_sync HL.out dlA dlN dl3).mono ?_); rintro e4 w4 ⟨rfl, hl4⟩; have HL := Lib.hid hl4; clear hl4)
    | (go_at_call 28; (with_reducible refine (lv_append_new 99 100 HL.out dlA dlD rfl dl4).mono ?_); rintro e5 w5 ⟨rfl, hl5⟩; have HL := Lib.hid hl5; clear hl5)
    | (go_at_call 22; (with_reducible refine (lv_fail HL.out dl5).mono ?_); rintro e6 w6 ⟨rfl, hl6⟩; have HL := Lib.hid hl6; clear hl6)
    | (go_at_call 47; (with_reducible refine (lv_on HL.out).mono ?_); rintro e7 w7 ⟨rfl, rfl⟩)
    | (go_at_call 24; (with_reducible refine (lv_power HL.out dl6).mono ?_); rintro e8 w8 ⟨rfl, hl8⟩; have HL := Lib.hid hl8; clear hl8)
    | (go_at_call 19; (with_reducible refine (lv_read HL.out dlA dlN dl7).mono ?_); rintro e9 w9 ⟨⟨v9, rfl, hb9, ho9⟩, hl9⟩; obtain ⟨a9, c9, rfl, hy9⟩ := ho9.bys; have HL := Lib.hid hl9; have hc9 := dl_conv hy9; clear hl9 hb9 ho9 hy9))
  go_ret
  exact ⟨rfl, HL.out.b⟩
end Go.Proofs.Ytplanmiggeghfaa
