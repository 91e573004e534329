import Derived.Test.YtnkoknfihhdelaaGreatDoorZIO
namespace Go.Proofs.YtnkoknfihhdelaaGreatDoor.In
open Go.ChangeShapes Go.WideShapes Go.ChangeAt Go.RowKit
set_option linter.unusedVariables false
set_option maxRecDepth 100000
set_option maxHeartbeats 1000000 in
theorem fields0 (x0 c r3 rx d a b:Nat) (sn:ByteArray) (n:Int) (hd:d<256) (ha:a<256) (hb:b<256) (hn:i32 n) (w:World):Calls Tryz.prog 47 #[.agg #[.int .u8 (x0:Int),.string sn,.int .i64 0,.int .u32 (c:Int),.int .u32 (r3:Int),.int .u32 (rx:Int)],.agg #[.int .u8 (x0:Int),.int .u8 (d:Int),.int .u8 (a:Int),.int .u8 (b:Int),.int .i32 n]] w fun en w'=>en=.returned (.bool (okF 0 d a b n))∧Below w.heap.size w w':=by
 have km:=imm0 n hn
 have ho:okF 0 d a b n=(regOk true d&&(regOk false a&&(regOk false b&&mayF 0 n))):=rfl
 rw [ho]
 clear ho
 generalize mayF 0 n=M at *
 have KM:=Lib.hid km
 clear km
 by_cases hdx:15<d
 ·go_enter Tryz.func47,Tryz.ntmps47
  go_wp2_with fail
  go_ret
  exact ⟨retb (by simp [regOk];omega),((Below.refl _ _).alloc (Nat.le_refl _) _).alloc (by simp) _⟩
 by_cases hax:15<a
 ·go_enter Tryz.func47,Tryz.ntmps47
  go_wp2_with fail
  go_ret
  exact ⟨retb (by simp [regOk];omega),((Below.refl _ _).alloc (Nat.le_refl _) _).alloc (by simp) _⟩
 by_cases hbx:15<b
 ·go_enter Tryz.func47,Tryz.ntmps47
  go_wp2_with fail
  go_ret
  exact ⟨retb (by simp [regOk];omega),((Below.refl _ _).alloc (Nat.le_refl _) _).alloc (by simp) _⟩
 cases M
 ·go_enter Tryz.func47,Tryz.ntmps47
  go_wp2_with fail
  refine (KM.out _).mono ?_
  rintro _ _ ⟨rfl,rfl⟩
  go_wp2_with fail
  go_ret
  exact ⟨retb (by simp),((Below.refl _ _).alloc (Nat.le_refl _) _).alloc (by simp) _⟩
 ·go_enter Tryz.func47,Tryz.ntmps47
  go_wp2_with fail
  refine (KM.out _).mono ?_
  rintro _ _ ⟨rfl,rfl⟩
  go_wp2_with fail
  all_goals
   go_ret
   refine ⟨retb ?_,((Below.refl _ _).alloc (Nat.le_refl _) _).alloc (by simp) _⟩
   rw [Bool.eq_iff_iff]
   simp [regOk]
   try omega
set_option maxHeartbeats 1000000 in
theorem fields1 (x0 c r3 rx d a b:Nat) (sn:ByteArray) (n:Int) (hd:d<256) (ha:a<256) (hb:b<256) (hn:i32 n) (w:World):Calls Tryz.prog 47 #[.agg #[.int .u8 (x0:Int),.string sn,.int .i64 1,.int .u32 (c:Int),.int .u32 (r3:Int),.int .u32 (rx:Int)],.agg #[.int .u8 (x0:Int),.int .u8 (d:Int),.int .u8 (a:Int),.int .u8 (b:Int),.int .i32 n]] w fun en w'=>en=.returned (.bool (okF 1 d a b n))∧Below w.heap.size w w':=by
 have km:=imm1 n hn
 have ho:okF 1 d a b n=(regOk true d&&(regOk false a&&(regOk false b&&mayF 1 n))):=rfl
 rw [ho]
 clear ho
 generalize mayF 1 n=M at *
 have KM:=Lib.hid km
 clear km
 by_cases hdx:15<d
 ·go_enter Tryz.func47,Tryz.ntmps47
  go_wp2_with fail
  go_ret
  exact ⟨retb (by simp [regOk];omega),((Below.refl _ _).alloc (Nat.le_refl _) _).alloc (by simp) _⟩
 by_cases hax:15<a
 ·go_enter Tryz.func47,Tryz.ntmps47
  go_wp2_with fail
  go_ret
  exact ⟨retb (by simp [regOk];omega),((Below.refl _ _).alloc (Nat.le_refl _) _).alloc (by simp) _⟩
 by_cases hbx:15<b
 ·go_enter Tryz.func47,Tryz.ntmps47
  go_wp2_with fail
  go_ret
  exact ⟨retb (by simp [regOk];omega),((Below.refl _ _).alloc (Nat.le_refl _) _).alloc (by simp) _⟩
 cases M
 ·go_enter Tryz.func47,Tryz.ntmps47
  go_wp2_with fail
  refine (KM.out _).mono ?_
  rintro _ _ ⟨rfl,rfl⟩
  go_wp2_with fail
  go_ret
  exact ⟨retb (by simp),((Below.refl _ _).alloc (Nat.le_refl _) _).alloc (by simp) _⟩
 ·go_enter Tryz.func47,Tryz.ntmps47
  go_wp2_with fail
  refine (KM.out _).mono ?_
  rintro _ _ ⟨rfl,rfl⟩
  go_wp2_with fail
  all_goals
   go_ret
   refine ⟨retb ?_,((Below.refl _ _).alloc (Nat.le_refl _) _).alloc (by simp) _⟩
   rw [Bool.eq_iff_iff]
   simp [regOk]
   try omega
set_option maxHeartbeats 1000000 in
theorem fields2 (x0 c r3 rx d a b:Nat) (sn:ByteArray) (n:Int) (hd:d<256) (ha:a<256) (hb:b<256) (hn:i32 n) (w:World):Calls Tryz.prog 47 #[.agg #[.int .u8 (x0:Int),.string sn,.int .i64 2,.int .u32 (c:Int),.int .u32 (r3:Int),.int .u32 (rx:Int)],.agg #[.int .u8 (x0:Int),.int .u8 (d:Int),.int .u8 (a:Int),.int .u8 (b:Int),.int .i32 n]] w fun en w'=>en=.returned (.bool (okF 2 d a b n))∧Below w.heap.size w w':=by
 have km:=imm2 n hn
 have ho:okF 2 d a b n=(regOk true d&&(regOk true a&&(regOk false b&&mayF 2 n))):=rfl
 rw [ho]
 clear ho
 generalize mayF 2 n=M at *
 have KM:=Lib.hid km
 clear km
 by_cases hdx:15<d
 ·go_enter Tryz.func47,Tryz.ntmps47
  go_wp2_with fail
  go_ret
  exact ⟨retb (by simp [regOk];omega),((Below.refl _ _).alloc (Nat.le_refl _) _).alloc (by simp) _⟩
 by_cases hax:15<a
 ·go_enter Tryz.func47,Tryz.ntmps47
  go_wp2_with fail
  go_ret
  exact ⟨retb (by simp [regOk];omega),((Below.refl _ _).alloc (Nat.le_refl _) _).alloc (by simp) _⟩
 by_cases hbx:15<b
 ·go_enter Tryz.func47,Tryz.ntmps47
  go_wp2_with fail
  go_ret
  exact ⟨retb (by simp [regOk];omega),((Below.refl _ _).alloc (Nat.le_refl _) _).alloc (by simp) _⟩
 cases M
 ·go_enter Tryz.func47,Tryz.ntmps47
  go_wp2_with fail
  refine (KM.out _).mono ?_
  rintro _ _ ⟨rfl,rfl⟩
  go_wp2_with fail
  go_ret
  exact ⟨retb (by simp),((Below.refl _ _).alloc (Nat.le_refl _) _).alloc (by simp) _⟩
 ·go_enter Tryz.func47,Tryz.ntmps47
  go_wp2_with fail
  refine (KM.out _).mono ?_
  rintro _ _ ⟨rfl,rfl⟩
  go_wp2_with fail
  all_goals
   go_ret
   refine ⟨retb ?_,((Below.refl _ _).alloc (Nat.le_refl _) _).alloc (by simp) _⟩
   rw [Bool.eq_iff_iff]
   simp [regOk]
   try omega
set_option maxHeartbeats 1000000 in
theorem fields3 (x0 c r3 rx d a b:Nat) (sn:ByteArray) (n:Int) (hd:d<256) (ha:a<256) (hb:b<256) (hn:i32 n) (w:World):Calls Tryz.prog 47 #[.agg #[.int .u8 (x0:Int),.string sn,.int .i64 3,.int .u32 (c:Int),.int .u32 (r3:Int),.int .u32 (rx:Int)],.agg #[.int .u8 (x0:Int),.int .u8 (d:Int),.int .u8 (a:Int),.int .u8 (b:Int),.int .i32 n]] w fun en w'=>en=.returned (.bool (okF 3 d a b n))∧Below w.heap.size w w':=by
 have km:=imm3 n hn
 have ho:okF 3 d a b n=(regOk true d&&(regOk true a&&(regOk false b&&mayF 3 n))):=rfl
 rw [ho]
 clear ho
 generalize mayF 3 n=M at *
 have KM:=Lib.hid km
 clear km
 by_cases hdx:15<d
 ·go_enter Tryz.func47,Tryz.ntmps47
  go_wp2_with fail
  go_ret
  exact ⟨retb (by simp [regOk];omega),((Below.refl _ _).alloc (Nat.le_refl _) _).alloc (by simp) _⟩
 by_cases hax:15<a
 ·go_enter Tryz.func47,Tryz.ntmps47
  go_wp2_with fail
  go_ret
  exact ⟨retb (by simp [regOk];omega),((Below.refl _ _).alloc (Nat.le_refl _) _).alloc (by simp) _⟩
 by_cases hbx:15<b
 ·go_enter Tryz.func47,Tryz.ntmps47
  go_wp2_with fail
  go_ret
  exact ⟨retb (by simp [regOk];omega),((Below.refl _ _).alloc (Nat.le_refl _) _).alloc (by simp) _⟩
 cases M
 ·go_enter Tryz.func47,Tryz.ntmps47
  go_wp2_with fail
  refine (KM.out _).mono ?_
  rintro _ _ ⟨rfl,rfl⟩
  go_wp2_with fail
  go_ret
  exact ⟨retb (by simp),((Below.refl _ _).alloc (Nat.le_refl _) _).alloc (by simp) _⟩
 ·go_enter Tryz.func47,Tryz.ntmps47
  go_wp2_with fail
  refine (KM.out _).mono ?_
  rintro _ _ ⟨rfl,rfl⟩
  go_wp2_with fail
  all_goals
   go_ret
   refine ⟨retb ?_,((Below.refl _ _).alloc (Nat.le_refl _) _).alloc (by simp) _⟩
   rw [Bool.eq_iff_iff]
   simp [regOk]
   try omega
set_option maxHeartbeats 1000000 in
theorem fields4 (x0 c r3 rx d a b:Nat) (sn:ByteArray) (n:Int) (hd:d<256) (ha:a<256) (hb:b<256) (hn:i32 n) (w:World):Calls Tryz.prog 47 #[.agg #[.int .u8 (x0:Int),.string sn,.int .i64 4,.int .u32 (c:Int),.int .u32 (r3:Int),.int .u32 (rx:Int)],.agg #[.int .u8 (x0:Int),.int .u8 (d:Int),.int .u8 (a:Int),.int .u8 (b:Int),.int .i32 n]] w fun en w'=>en=.returned (.bool (okF 4 d a b n))∧Below w.heap.size w w':=by
 have km:=imm4 n hn
 have ho:okF 4 d a b n=(regOk true d&&(regOk true a&&(regOk false b&&mayF 4 n))):=rfl
 rw [ho]
 clear ho
 generalize mayF 4 n=M at *
 have KM:=Lib.hid km
 clear km
 by_cases hdx:15<d
 ·go_enter Tryz.func47,Tryz.ntmps47
  go_wp2_with fail
  go_ret
  exact ⟨retb (by simp [regOk];omega),((Below.refl _ _).alloc (Nat.le_refl _) _).alloc (by simp) _⟩
 by_cases hax:15<a
 ·go_enter Tryz.func47,Tryz.ntmps47
  go_wp2_with fail
  go_ret
  exact ⟨retb (by simp [regOk];omega),((Below.refl _ _).alloc (Nat.le_refl _) _).alloc (by simp) _⟩
 by_cases hbx:15<b
 ·go_enter Tryz.func47,Tryz.ntmps47
  go_wp2_with fail
  go_ret
  exact ⟨retb (by simp [regOk];omega),((Below.refl _ _).alloc (Nat.le_refl _) _).alloc (by simp) _⟩
 cases M
 ·go_enter Tryz.func47,Tryz.ntmps47
  go_wp2_with fail
  refine (KM.out _).mono ?_
  rintro _ _ ⟨rfl,rfl⟩
  go_wp2_with fail
  go_ret
  exact ⟨retb (by simp),((Below.refl _ _).alloc (Nat.le_refl _) _).alloc (by simp) _⟩
 ·go_enter Tryz.func47,Tryz.ntmps47
  go_wp2_with fail
  refine (KM.out _).mono ?_
  rintro _ _ ⟨rfl,rfl⟩
  go_wp2_with fail
  all_goals
   go_ret
   refine ⟨retb ?_,((Below.refl _ _).alloc (Nat.le_refl _) _).alloc (by simp) _⟩
   rw [Bool.eq_iff_iff]
   simp [regOk]
   try omega
set_option maxHeartbeats 1000000 in
theorem fields5 (x0 c r3 rx d a b:Nat) (sn:ByteArray) (n:Int) (hd:d<256) (ha:a<256) (hb:b<256) (hn:i32 n) (w:World):Calls Tryz.prog 47 #[.agg #[.int .u8 (x0:Int),.string sn,.int .i64 5,.int .u32 (c:Int),.int .u32 (r3:Int),.int .u32 (rx:Int)],.agg #[.int .u8 (x0:Int),.int .u8 (d:Int),.int .u8 (a:Int),.int .u8 (b:Int),.int .i32 n]] w fun en w'=>en=.returned (.bool (okF 5 d a b n))∧Below w.heap.size w w':=by
 have km:=imm5 n hn
 have ho:okF 5 d a b n=(regOk false d&&(regOk true a&&(regOk true b&&mayF 5 n))):=rfl
 rw [ho]
 clear ho
 generalize mayF 5 n=M at *
 have KM:=Lib.hid km
 clear km
 by_cases hdx:15<d
 ·go_enter Tryz.func47,Tryz.ntmps47
  go_wp2_with fail
  go_ret
  exact ⟨retb (by simp [regOk];omega),((Below.refl _ _).alloc (Nat.le_refl _) _).alloc (by simp) _⟩
 by_cases hax:15<a
 ·go_enter Tryz.func47,Tryz.ntmps47
  go_wp2_with fail
  go_ret
  exact ⟨retb (by simp [regOk];omega),((Below.refl _ _).alloc (Nat.le_refl _) _).alloc (by simp) _⟩
 by_cases hbx:15<b
 ·go_enter Tryz.func47,Tryz.ntmps47
  go_wp2_with fail
  go_ret
  exact ⟨retb (by simp [regOk];omega),((Below.refl _ _).alloc (Nat.le_refl _) _).alloc (by simp) _⟩
 cases M
 ·go_enter Tryz.func47,Tryz.ntmps47
  go_wp2_with fail
  refine (KM.out _).mono ?_
  rintro _ _ ⟨rfl,rfl⟩
  go_wp2_with fail
  go_ret
  exact ⟨retb (by simp),((Below.refl _ _).alloc (Nat.le_refl _) _).alloc (by simp) _⟩
 ·go_enter Tryz.func47,Tryz.ntmps47
  go_wp2_with fail
  refine (KM.out _).mono ?_
  rintro _ _ ⟨rfl,rfl⟩
  go_wp2_with fail
  all_goals
   go_ret
   refine ⟨retb ?_,((Below.refl _ _).alloc (Nat.le_refl _) _).alloc (by simp) _⟩
   rw [Bool.eq_iff_iff]
   simp [regOk]
   try omega
set_option maxHeartbeats 1000000 in
theorem fields6 (x0 c r3 rx d a b:Nat) (sn:ByteArray) (n:Int) (hd:d<256) (ha:a<256) (hb:b<256) (hn:i32 n) (w:World):Calls Tryz.prog 47 #[.agg #[.int .u8 (x0:Int),.string sn,.int .i64 6,.int .u32 (c:Int),.int .u32 (r3:Int),.int .u32 (rx:Int)],.agg #[.int .u8 (x0:Int),.int .u8 (d:Int),.int .u8 (a:Int),.int .u8 (b:Int),.int .i32 n]] w fun en w'=>en=.returned (.bool (okF 6 d a b n))∧Below w.heap.size w w':=by
 have km:=imm6 n hn
 have ho:okF 6 d a b n=(regOk false d&&(regOk true a&&(regOk true b&&mayF 6 n))):=rfl
 rw [ho]
 clear ho
 generalize mayF 6 n=M at *
 have KM:=Lib.hid km
 clear km
 by_cases hdx:15<d
 ·go_enter Tryz.func47,Tryz.ntmps47
  go_wp2_with fail
  go_ret
  exact ⟨retb (by simp [regOk];omega),((Below.refl _ _).alloc (Nat.le_refl _) _).alloc (by simp) _⟩
 by_cases hax:15<a
 ·go_enter Tryz.func47,Tryz.ntmps47
  go_wp2_with fail
  go_ret
  exact ⟨retb (by simp [regOk];omega),((Below.refl _ _).alloc (Nat.le_refl _) _).alloc (by simp) _⟩
 by_cases hbx:15<b
 ·go_enter Tryz.func47,Tryz.ntmps47
  go_wp2_with fail
  go_ret
  exact ⟨retb (by simp [regOk];omega),((Below.refl _ _).alloc (Nat.le_refl _) _).alloc (by simp) _⟩
 cases M
 ·go_enter Tryz.func47,Tryz.ntmps47
  go_wp2_with fail
  refine (KM.out _).mono ?_
  rintro _ _ ⟨rfl,rfl⟩
  go_wp2_with fail
  go_ret
  exact ⟨retb (by simp),((Below.refl _ _).alloc (Nat.le_refl _) _).alloc (by simp) _⟩
 ·go_enter Tryz.func47,Tryz.ntmps47
  go_wp2_with fail
  refine (KM.out _).mono ?_
  rintro _ _ ⟨rfl,rfl⟩
  go_wp2_with fail
  all_goals
   go_ret
   refine ⟨retb ?_,((Below.refl _ _).alloc (Nat.le_refl _) _).alloc (by simp) _⟩
   rw [Bool.eq_iff_iff]
   simp [regOk]
   try omega
set_option maxHeartbeats 1000000 in
theorem fields7 (x0 c r3 rx d a b:Nat) (sn:ByteArray) (n:Int) (hd:d<256) (ha:a<256) (hb:b<256) (hn:i32 n) (w:World):Calls Tryz.prog 47 #[.agg #[.int .u8 (x0:Int),.string sn,.int .i64 7,.int .u32 (c:Int),.int .u32 (r3:Int),.int .u32 (rx:Int)],.agg #[.int .u8 (x0:Int),.int .u8 (d:Int),.int .u8 (a:Int),.int .u8 (b:Int),.int .i32 n]] w fun en w'=>en=.returned (.bool (okF 7 d a b n))∧Below w.heap.size w w':=by
 have km:=imm7 n hn
 have ho:okF 7 d a b n=(regOk true d&&(regOk true a&&(regOk true b&&mayF 7 n))):=rfl
 rw [ho]
 clear ho
 generalize mayF 7 n=M at *
 have KM:=Lib.hid km
 clear km
 by_cases hdx:15<d
 ·go_enter Tryz.func47,Tryz.ntmps47
  go_wp2_with fail
  go_ret
  exact ⟨retb (by simp [regOk];omega),((Below.refl _ _).alloc (Nat.le_refl _) _).alloc (by simp) _⟩
 by_cases hax:15<a
 ·go_enter Tryz.func47,Tryz.ntmps47
  go_wp2_with fail
  go_ret
  exact ⟨retb (by simp [regOk];omega),((Below.refl _ _).alloc (Nat.le_refl _) _).alloc (by simp) _⟩
 by_cases hbx:15<b
 ·go_enter Tryz.func47,Tryz.ntmps47
  go_wp2_with fail
  go_ret
  exact ⟨retb (by simp [regOk];omega),((Below.refl _ _).alloc (Nat.le_refl _) _).alloc (by simp) _⟩
 cases M
 ·go_enter Tryz.func47,Tryz.ntmps47
  go_wp2_with fail
  refine (KM.out _).mono ?_
  rintro _ _ ⟨rfl,rfl⟩
  go_wp2_with fail
  go_ret
  exact ⟨retb (by simp),((Below.refl _ _).alloc (Nat.le_refl _) _).alloc (by simp) _⟩
 ·go_enter Tryz.func47,Tryz.ntmps47
  go_wp2_with fail
  refine (KM.out _).mono ?_
  rintro _ _ ⟨rfl,rfl⟩
  go_wp2_with fail
  all_goals
   go_ret
   refine ⟨retb ?_,((Below.refl _ _).alloc (Nat.le_refl _) _).alloc (by simp) _⟩
   rw [Bool.eq_iff_iff]
   simp [regOk]
   try omega
set_option maxHeartbeats 1000000 in
theorem fields8 (x0 c r3 rx d a b:Nat) (sn:ByteArray) (n:Int) (hd:d<256) (ha:a<256) (hb:b<256) (hn:i32 n) (w:World):Calls Tryz.prog 47 #[.agg #[.int .u8 (x0:Int),.string sn,.int .i64 8,.int .u32 (c:Int),.int .u32 (r3:Int),.int .u32 (rx:Int)],.agg #[.int .u8 (x0:Int),.int .u8 (d:Int),.int .u8 (a:Int),.int .u8 (b:Int),.int .i32 n]] w fun en w'=>en=.returned (.bool (okF 8 d a b n))∧Below w.heap.size w w':=by
 have km:=imm8 n hn
 have ho:okF 8 d a b n=(regOk true d&&(regOk true a&&(regOk false b&&mayF 8 n))):=rfl
 rw [ho]
 clear ho
 generalize mayF 8 n=M at *
 have KM:=Lib.hid km
 clear km
 by_cases hdx:15<d
 ·go_enter Tryz.func47,Tryz.ntmps47
  go_wp2_with fail
  go_ret
  exact ⟨retb (by simp [regOk];omega),((Below.refl _ _).alloc (Nat.le_refl _) _).alloc (by simp) _⟩
 by_cases hax:15<a
 ·go_enter Tryz.func47,Tryz.ntmps47
  go_wp2_with fail
  go_ret
  exact ⟨retb (by simp [regOk];omega),((Below.refl _ _).alloc (Nat.le_refl _) _).alloc (by simp) _⟩
 by_cases hbx:15<b
 ·go_enter Tryz.func47,Tryz.ntmps47
  go_wp2_with fail
  go_ret
  exact ⟨retb (by simp [regOk];omega),((Below.refl _ _).alloc (Nat.le_refl _) _).alloc (by simp) _⟩
 cases M
 ·go_enter Tryz.func47,Tryz.ntmps47
  go_wp2_with fail
  refine (KM.out _).mono ?_
  rintro _ _ ⟨rfl,rfl⟩
  go_wp2_with fail
  go_ret
  exact ⟨retb (by simp),((Below.refl _ _).alloc (Nat.le_refl _) _).alloc (by simp) _⟩
 ·go_enter Tryz.func47,Tryz.ntmps47
  go_wp2_with fail
  refine (KM.out _).mono ?_
  rintro _ _ ⟨rfl,rfl⟩
  go_wp2_with fail
  all_goals
   go_ret
   refine ⟨retb ?_,((Below.refl _ _).alloc (Nat.le_refl _) _).alloc (by simp) _⟩
   rw [Bool.eq_iff_iff]
   simp [regOk]
   try omega
set_option maxHeartbeats 1000000 in
theorem fields9 (x0 c r3 rx d a b:Nat) (sn:ByteArray) (n:Int) (hd:d<256) (ha:a<256) (hb:b<256) (hn:i32 n) (w:World):Calls Tryz.prog 47 #[.agg #[.int .u8 (x0:Int),.string sn,.int .i64 9,.int .u32 (c:Int),.int .u32 (r3:Int),.int .u32 (rx:Int)],.agg #[.int .u8 (x0:Int),.int .u8 (d:Int),.int .u8 (a:Int),.int .u8 (b:Int),.int .i32 n]] w fun en w'=>en=.returned (.bool (okF 9 d a b n))∧Below w.heap.size w w':=by
 have km:=imm9 n hn
 have ho:okF 9 d a b n=(regOk true d&&(regOk true a&&(regOk false b&&mayF 9 n))):=rfl
 rw [ho]
 clear ho
 generalize mayF 9 n=M at *
 have KM:=Lib.hid km
 clear km
 by_cases hdx:15<d
 ·go_enter Tryz.func47,Tryz.ntmps47
  go_wp2_with fail
  go_ret
  exact ⟨retb (by simp [regOk];omega),((Below.refl _ _).alloc (Nat.le_refl _) _).alloc (by simp) _⟩
 by_cases hax:15<a
 ·go_enter Tryz.func47,Tryz.ntmps47
  go_wp2_with fail
  go_ret
  exact ⟨retb (by simp [regOk];omega),((Below.refl _ _).alloc (Nat.le_refl _) _).alloc (by simp) _⟩
 by_cases hbx:15<b
 ·go_enter Tryz.func47,Tryz.ntmps47
  go_wp2_with fail
  go_ret
  exact ⟨retb (by simp [regOk];omega),((Below.refl _ _).alloc (Nat.le_refl _) _).alloc (by simp) _⟩
 cases M
 ·go_enter Tryz.func47,Tryz.ntmps47
  go_wp2_with fail
  refine (KM.out _).mono ?_
  rintro _ _ ⟨rfl,rfl⟩
  go_wp2_with fail
  go_ret
  exact ⟨retb (by simp),((Below.refl _ _).alloc (Nat.le_refl _) _).alloc (by simp) _⟩
 ·go_enter Tryz.func47,Tryz.ntmps47
  go_wp2_with fail
  refine (KM.out _).mono ?_
  rintro _ _ ⟨rfl,rfl⟩
  go_wp2_with fail
  all_goals
   go_ret
   refine ⟨retb ?_,((Below.refl _ _).alloc (Nat.le_refl _) _).alloc (by simp) _⟩
   rw [Bool.eq_iff_iff]
   simp [regOk]
   try omega
set_option maxHeartbeats 1000000 in
theorem fields10 (x0 c r3 rx d a b:Nat) (sn:ByteArray) (n:Int) (hd:d<256) (ha:a<256) (hb:b<256) (hn:i32 n) (w:World):Calls Tryz.prog 47 #[.agg #[.int .u8 (x0:Int),.string sn,.int .i64 10,.int .u32 (c:Int),.int .u32 (r3:Int),.int .u32 (rx:Int)],.agg #[.int .u8 (x0:Int),.int .u8 (d:Int),.int .u8 (a:Int),.int .u8 (b:Int),.int .i32 n]] w fun en w'=>en=.returned (.bool (okF 10 d a b n))∧Below w.heap.size w w':=by
 have km:=imm10 n hn
 have ho:okF 10 d a b n=(regOk false d&&(regOk false a&&(regOk false b&&mayF 10 n))):=rfl
 rw [ho]
 clear ho
 generalize mayF 10 n=M at *
 have KM:=Lib.hid km
 clear km
 by_cases hdx:15<d
 ·go_enter Tryz.func47,Tryz.ntmps47
  go_wp2_with fail
  go_ret
  exact ⟨retb (by simp [regOk];omega),((Below.refl _ _).alloc (Nat.le_refl _) _).alloc (by simp) _⟩
 by_cases hax:15<a
 ·go_enter Tryz.func47,Tryz.ntmps47
  go_wp2_with fail
  go_ret
  exact ⟨retb (by simp [regOk];omega),((Below.refl _ _).alloc (Nat.le_refl _) _).alloc (by simp) _⟩
 by_cases hbx:15<b
 ·go_enter Tryz.func47,Tryz.ntmps47
  go_wp2_with fail
  go_ret
  exact ⟨retb (by simp [regOk];omega),((Below.refl _ _).alloc (Nat.le_refl _) _).alloc (by simp) _⟩
 cases M
 ·go_enter Tryz.func47,Tryz.ntmps47
  go_wp2_with fail
  refine (KM.out _).mono ?_
  rintro _ _ ⟨rfl,rfl⟩
  go_wp2_with fail
  go_ret
  exact ⟨retb (by simp),((Below.refl _ _).alloc (Nat.le_refl _) _).alloc (by simp) _⟩
 ·go_enter Tryz.func47,Tryz.ntmps47
  go_wp2_with fail
  refine (KM.out _).mono ?_
  rintro _ _ ⟨rfl,rfl⟩
  go_wp2_with fail
  all_goals
   go_ret
   refine ⟨retb ?_,((Below.refl _ _).alloc (Nat.le_refl _) _).alloc (by simp) _⟩
   rw [Bool.eq_iff_iff]
   simp [regOk]
   try omega
end Go.Proofs.YtnkoknfihhdelaaGreatDoor.In
