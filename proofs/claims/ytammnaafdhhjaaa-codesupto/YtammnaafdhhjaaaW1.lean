/- Ytammnaafdhhjaaa: the leaves: numbers, bools, floats; one byte, two bytes, a float read. -/
import Derived.Test.YtammnaafdhhjaaaRows
import Derived.WalkKit
import Derived.WalkSpells
import Derived.WalkLawsBesides
import Derived.BigQuiet
import Derived.Deep.QuietTactic
import Derived.Maps.AppendAt
import Derived.Laws.BitsAllLaws
import Derived.Laws.Externs
import Derived.Lib.IndexBytes
namespace Go.Proofs.Ytammnaafdhhjaaa
open Go.RowKit

/-- A text out of its bytes. -/
def S (l : List UInt8) : ByteArray := ⟨l.toArray⟩
theorem S_toList (l : List UInt8) : (S l).toList = l := by simp [S, ByteArray.toList_eq]
theorem S_data (l : List UInt8) : (S l).data.toList = l := by simp [S]
theorem S_size (l : List UInt8) : (S l).size = l.length := by simp [S, ByteArray.size]
theorem S_of (s : ByteArray) : S s.data.toList = s := by simp [S]
theorem S_inj {a b : List UInt8} (h : S a = S b) : a = b := by have := congrArg (fun s : ByteArray => s.data.toList) h; simpa [S] using this
theorem S_tail (c : UInt8) (l : List UInt8) : (S (c :: l)).extract 1 (S (c :: l)).size = S l := by
  apply ByteArray.ext
  apply Array.toList_inj.1
  rw [Lib.extract_to_end]; simp [S]
theorem S_head (c : UInt8) (l : List UInt8) (h : 0 < (S (c :: l)).size) : (S (c :: l))[0] = c := rfl

/-- The frozen facts on two functions of package math. -/
theorem run_f32bits (x : Nat) (w : World) : (callFunc 71 #[.float .f32 x]).run Try.prog w = .ok (.value (.int .u32 x)) w := by
  rw [run_callFunc_extern (P := Try.prog) (e := Extern.MathFloatBits.float32bits) Try.func71 (by kernel_rfl) (by kernel_rfl) (by kernel_rfl) (by kernel_rfl)]
  rfl
theorem run_f32from (x : Int) (w : World) : (callFunc 80 #[.int .u32 x]).run Try.prog w = .ok (.value (.float .f32 x.toNat)) w := by
  rw [run_callFunc_extern (P := Try.prog) (e := Extern.MathFloatBits.float32frombits) Try.func80 (by kernel_rfl) (by kernel_rfl) (by kernel_rfl) (by kernel_rfl)]
  rfl

/-- The kit's set has no law for the store of a float. -/
theorem run_store_float (w : World) (a : Addr) (k : FloatKind) (n : Nat) (m : Mode) : (store a (.float k n) m).run Try.prog w = stored Try.prog w a (.float k n) m := run_store Try.prog w a _ m rfl

/-- What a reader's call leaves: all old blocks but the reader's own are as they were; that one holds the rest. -/
structure Rd (b : Nat) (w w' : World) (l : List UInt8) : Prop where
  g : w.grownBy w' (some b)
  c : w'.cell? ⟨b, 0, none⟩ = some (.string (S l))
  f : w'.frozen? ⟨b, 0, none⟩ = false

theorem grownBy_refl (w : World) (row : Option Nat) : w.grownBy w row := ⟨rfl, rfl, rfl, Nat.le_refl _, fun _ _ _ => rfl⟩
theorem Rd.trans {b : Nat} {w w1 w2 : World} {l l' : List UInt8} (h : Rd b w w1 l) (k : Rd b w1 w2 l') : Rd b w w2 l' := ⟨h.g.trans k.g, k.c, k.f⟩
theorem grownBy_setCell (w : World) (b o : Nat) (u : Value) : w.grownBy (w.setCell ⟨b, o, none⟩ u) (some b) :=
  ⟨rfl, rfl, rfl, by simp [World.setCell], fun k _ hne => Below.heap_setCell _ _ _ _ (fun e => hne (by rw [e]))⟩

def b1 : List UInt8 → Int
  | [] => 0
  | c :: _ => (c.toNat : Int)
def t1 : List UInt8 → List UInt8
  | [] => []
  | _ :: t => t
theorem b1_bd (l : List UInt8) : 0 ≤ b1 l ∧ b1 l ≤ 255 := by
  cases l with
  | nil => simp [b1]
  | cons c t => simp only [b1]; have := c.toNat_lt; omega
theorem t1_eq (l : List UInt8) : t1 l = l.drop 1 := by cases l <;> rfl
def b2 (l : List UInt8) : Int := b1 l * 256 + b1 (t1 l)
def t2 (l : List UInt8) : List UInt8 := t1 (t1 l)
theorem b2_bd (l : List UInt8) : 0 ≤ b2 l ∧ b2 l ≤ 65535 := by
  have h1 := b1_bd l; have h2 := b1_bd (t1 l); unfold b2; omega

set_option maxHeartbeats 400000 in
theorem oneByte_any (l : List UInt8) (b : Nat) (w : World) (h : w.cell? ⟨b, 0, none⟩ = some (.string (S l))) (hf : w.frozen? ⟨b, 0, none⟩ = false) :
    Calls Try.prog 61 #[.pointer (some ⟨b, 0, none⟩)] w fun e w' => e = .returned (.int .i64 (b1 l)) ∧ Rd b w w' (t1 l) := by
  cases l with
  | nil =>
    have he : (S []).toList.isEmpty = true := by rw [S_toList]; rfl
    go_enter Try.func61, Try.ntmps61
    go_wp2
    go_ret
    exact ⟨rfl, grownBy_refl _ _, h, hf⟩
  | cons c t =>
    have he : (S (c :: t)).toList.isEmpty = false := by rw [S_toList]; rfl
    have hz : 0 < (S (c :: t)).size := by rw [S_size]; simp
    have ht : Hid ((S (c :: t)).extract 1 (S (c :: t)).size = S t) := S_tail c t
    have hh : Hid ((S (c :: t))[0] = c) := S_head c t hz
    have hw : Hid (wrap64 ((c.toNat : Nat) : Int) = (c.toNat : Int)) := by have := c.toNat_lt; show wrap64 _ = _; simp [wrap64]; omega
    go_enter Try.func61, Try.ntmps61
    go_wp2
    go_ret
    refine ⟨?_, grownBy_setCell _ _ _ _, ?_, ?_⟩
    · rw [hh.out]; rw [hw.out]; rfl
    · rw [ht.out]; exact World.cell?_setCell_same _ _ _ h
    · simp [hf]

theorem bits_or_i64 (a b : Int) (h1 : 0 ≤ a) (h2 : a ≤ 255) (h3 : 0 ≤ b) (h4 : b ≤ 255) : bits .or .i64 (a * 256) b = a * 256 + b := by
  obtain ⟨x, rfl⟩ := Int.eq_ofNat_of_zero_le h1
  obtain ⟨y, rfl⟩ := Int.eq_ofNat_of_zero_le h3
  have e : ((x : Int) * 256) = ((x * 256 : Nat) : Int) := by simp
  have hj := nat_join 8 (x * 256) y (by omega) (by omega)
  rw [e]
  show IntKind.i64.wrap ((BitVec.ofInt 64 ((x * 256 : Nat) : Int) ||| BitVec.ofInt 64 (y : Int)).toNat : Int) = _
  rw [BitVec.toNat_or, ofInt_u64 _ (by omega), ofInt_u64 _ (by omega), hj]
  simp [IntKind.wrap, IntKind.bits, IntKind.signed]
  omega
theorem bits_or_u32 (a b : Int) (h1 : 0 ≤ a) (h2 : a ≤ 65535) (h3 : 0 ≤ b) (h4 : b ≤ 65535) : bits .or .u32 (a * 65536) b = a * 65536 + b := by
  obtain ⟨x, rfl⟩ := Int.eq_ofNat_of_zero_le h1
  obtain ⟨y, rfl⟩ := Int.eq_ofNat_of_zero_le h3
  have e : ((x : Int) * 65536) = ((x * 65536 : Nat) : Int) := by simp
  rw [e, u32_or_nat _ _ (by omega) (by omega), nat_join 16 (x * 65536) y (by omega) (by omega)]
  simp
theorem ret_int {k : IntKind} {a b : Int} (h : a = b) : Ending.returned (.int k a) = .returned (.int k b) := by rw [h]
theorem ret_flt {k : FloatKind} {a b : Nat} (h : a = b) : Ending.returned (.float k a) = .returned (.float k b) := by rw [h]
theorem ret_bool {a b : Bool} (h : a = b) : Ending.returned (.bool a) = .returned (.bool b) := by rw [h]

set_option maxHeartbeats 400000 in
theorem number_any (l : List UInt8) (b : Nat) (w : World) (h : w.cell? ⟨b, 0, none⟩ = some (.string (S l))) (hf : w.frozen? ⟨b, 0, none⟩ = false) :
    Calls Try.prog 60 #[.pointer (some ⟨b, 0, none⟩)] w fun e w' => e = .returned (.int .i64 (b2 l)) ∧ Rd b w w' (t2 l) := by
  obtain ⟨h1, h2⟩ := b1_bd l
  obtain ⟨h3, h4⟩ := b1_bd (t1 l)
  have hb : Hid (bits .or .i64 (b1 l * 256) (b1 (t1 l)) = b2 l) := bits_or_i64 _ _ h1 h2 h3 h4
  go_enter Try.func60, Try.ntmps60
  go_wp2_with fail
  refine (oneByte_any l b _ h hf).mono ?_
  rintro e w1 ⟨rfl, r1⟩
  go_wp2_with fail
  refine (oneByte_any (t1 l) b _ r1.c r1.f).mono ?_
  rintro e w2 ⟨rfl, r2⟩
  go_wp2_with fail
  go_ret
  exact ⟨ret_int hb.out, r1.trans r2⟩

def b4 (l : List UInt8) : Nat := (b2 l * 65536 + b2 (t1 (t1 l))).toNat
def t4 (l : List UInt8) : List UInt8 := t2 (t2 l)
theorem b4_lt (l : List UInt8) : b4 l < 4294967296 := by
  have h1 := b2_bd l; have h2 := b2_bd (t1 (t1 l)); unfold b4; omega

set_option maxHeartbeats 400000 in
theorem float_any (l : List UInt8) (b : Nat) (w : World) (h : w.cell? ⟨b, 0, none⟩ = some (.string (S l))) (hf : w.frozen? ⟨b, 0, none⟩ = false) :
    Calls Try.prog 77 #[.pointer (some ⟨b, 0, none⟩)] w fun e w' => e = .returned (.float .f32 (b4 l)) ∧ Rd b w w' (t4 l) := by
  obtain ⟨h1, h2⟩ := b2_bd l
  obtain ⟨h3, h4⟩ := b2_bd (t2 l)
  have hb : Hid (bits .or .u32 (b2 l * 65536) (b2 (t2 l)) = b2 l * 65536 + b2 (t2 l)) := bits_or_u32 _ _ h1 h2 h3 h4
  have hx := run_f32from
  go_enter Try.func77, Try.ntmps77
  go_wp2_with fail
  refine (number_any l b _ h hf).mono ?_
  rintro e w1 ⟨rfl, r1⟩
  go_wp2_with fail
  refine (number_any (t2 l) b _ r1.c r1.f).mono ?_
  rintro e w2 ⟨rfl, r2⟩
  go_wp2_with fail
  go_ret
  exact ⟨ret_flt (by rw [hb.out]; rfl), r1.trans r2⟩

/-- A byte as a value; bytes out of numbers. -/
def by8 (c : UInt8) : Value := .int .u8 (c.toNat : Int)
def u8 (n : Int) : UInt8 := UInt8.ofNat n.toNat
theorem u8_toNat (n : Int) (h0 : 0 ≤ n) (h1 : n < 256) : ((u8 n).toNat : Int) = n := by
  simp [u8, UInt8.toNat_ofNat']; omega
theorem by8_u8 (n : Int) (h0 : 0 ≤ n) (h1 : n < 256) : by8 (u8 n) = .int .u8 n := by rw [by8, u8_toNat n h0 h1]
def n2 (n : Int) : List UInt8 := [u8 (n / 256), u8 (n % 256)]

/-- A slice of bytes of the call's own, from block B on, and what it holds. -/
def Own (B : Nat) (w : World) (v : Value) (l : List UInt8) : Prop := w.ownsRow B 5 1 v l.length (l.map by8)
/-- What a call that appends leaves. -/
structure Put (B : Nat) (w w' : World) (v v' : Value) (l : List UInt8) : Prop where
  own : Own B w' v' l
  g : w.grownBy w' v.ownBlock
  at_ : v'.ownBlock = v.ownBlock ∨ ∃ k, v'.ownBlock = some k ∧ w.heap.size ≤ k

theorem Put.trans {B : Nat} {w w1 w2 : World} {v v1 v2 : Value} {l l' : List UInt8} (h : Put B w w1 v v1 l) (k : Put B w1 w2 v1 v2 l') : Put B w w2 v v2 l' := by
  refine ⟨k.own, ⟨k.g.os.trans h.g.os, k.g.tape.trans h.g.tape, k.g.output.trans h.g.output, Nat.le_trans h.g.size k.g.size, fun i hi hne => ?_⟩, ?_⟩
  · rw [k.g.block i (Nat.lt_of_lt_of_le hi h.g.size) ?_, h.g.block i hi hne]
    rcases h.at_ with e | ⟨j, e, hj⟩
    · rw [e]; exact hne
    · rw [e]; intro e2; injection e2 with e2; omega
  · have := h.g.size
    rcases k.at_ with e | ⟨j, e, hj⟩
    · rw [e]; exact h.at_
    · exact .inr ⟨j, e, by omega⟩
/-- Blocks laid ahead of it. -/
theorem Put.pre {B : Nat} {w w0 w1 : World} {v v1 : Value} {l : List UInt8} (h : w.grownBy w0 none) (k : Put B w0 w1 v v1 l) : Put B w w1 v v1 l := by
  refine ⟨k.own, ⟨k.g.os.trans h.os, k.g.tape.trans h.tape, k.g.output.trans h.output, Nat.le_trans h.size k.g.size, fun i hi hne => ?_⟩, ?_⟩
  · rw [k.g.block i (Nat.lt_of_lt_of_le hi h.size) hne, h.block i hi (by simp)]
  · have := h.size
    rcases k.at_ with e | ⟨j, e, hj⟩
    · exact .inl e
    · exact .inr ⟨j, e, by omega⟩
theorem Own.alloc {B : Nat} {w : World} {v : Value} {l : List UInt8} (h : Own B w v l) (o : Obj) : Own B (w.alloc o) v l := World.ownsRow.alloc h o
theorem Own.nil (B : Nat) (w : World) : Own B w (.slice none 0 0) [] := World.ownsRow_nil w B _ 1

theorem Try.info5' : ∃ i, Try.prog.info? 5 = some i ∧ i.zero = some (.int .u8 0) ∧ i.size = 1 ∧ i.bytes = 1 := info_parts (by kernel_rfl)

theorem wp_app8 {w : World} {ops : Array Oper} {rest : List Oper} {o : Oper} {a : Act} {Q : Exit → Act → World → Prop} (hgd : o.guard = none) (s x : Operand)
    (ho : o.op = .call { callee := .builtin .append, args := #[s, x], argTypes := #[58, 58] })
    (B : Nat) (v : Value) (l : List UInt8) (hs : a.eval s = v) (hown : Own B w v l) (ad : Addr) (m c : Nat) (news : List UInt8) (hx : a.eval x = .slice (some ad) m c) (hm : news.length = m)
    (hnews : ∀ j u, (news.map by8)[j]? = some u → w.cell? (ad.add j) = some u) (hl : l.length + m ≤ 1000000) (hB : B ≤ w.heap.size)
    (h : ∀ v' w', Put B w w' v v' (l ++ news) → wpList Try.prog ops Q rest (a.put o.dst v') w') : wpList Try.prog ops Q (o :: rest) a w := by
  obtain ⟨i0, hi, hz0, hz1, hz2⟩ := Try.info5'
  refine wpList_append_own_at w hgd s x _ ho B 5 i0 (.int .u8 0) 1 1 Try.underlying58 hi hz0 hz1 hz2 rfl (by decide) v l.length (l.map by8) hs hown ad m c (news.map by8) hx (by simp [hm]) hnews ?_ ?_ ?_ hB ?_
  · intro u hu; obtain ⟨y, _, rfl⟩ := List.mem_map.1 hu; rfl
  · unfold maxLen; omega
  · omega
  · intro v' w' h1 h2 _ h4
    refine h v' w' ⟨?_, h2, ?_⟩
    · unfold Own; rw [List.length_append, hm, List.map_append]; exact h1
    · rcases h4 with e | e
      · exact .inl e
      · exact .inr ⟨_, e, Nat.le_refl _⟩

set_option maxHeartbeats 400000 in
theorem putNumber_any (B : Nat) (v : Value) (l : List UInt8) (n : Int) (w : World) (hown : Own B w v l) (hB : B ≤ w.heap.size) (hl : l.length ≤ 900000) (h1 : 0 ≤ n) (h2 : n ≤ 65535) :
    Calls Try.prog 30 #[v, .int .i64 n] w fun e w' => ∃ v', e = .returned v' ∧ Put B w w' v v' (l ++ n2 n) := by
  have e1 : Hid (by8 (u8 (n / 256)) = .int .u8 (n / 256)) := by8_u8 _ (by omega) (by omega)
  have e2 : Hid (by8 (u8 (n % 256)) = .int .u8 (n % 256)) := by8_u8 _ (by omega) (by omega)
  have HO : Hid (Own B w v l) := hown
  clear hown
  go_enter Try.func30, Try.ntmps30
  go_wp2_with (at_builtin; refine wp_app8 rfl _ _ rfl B _ l rfl (HO.out.alloc _) ⟨w.heap.size, 0, none⟩ 2 2 (n2 n) rfl rfl ?c1 ?c2 ?c3 ?c4)
  case c1 =>
    intro j u hu
    match j, hu with
    | 0, hu => simp [n2, e1.out] at hu; subst hu; simp [Addr.add]
    | 1, hu => simp [n2, e2.out] at hu; subst hu; simp [Addr.add]
  case c2 => omega
  case c3 => simp; omega
  case c4 =>
    intro v' w' hp
    go_wp2
    go_ret
    exact ⟨_, rfl, hp.pre (World.grownBy_alloc _ _ _)⟩
end Go.Proofs.Ytammnaafdhhjaaa
