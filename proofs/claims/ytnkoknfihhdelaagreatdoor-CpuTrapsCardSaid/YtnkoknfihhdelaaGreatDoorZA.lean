import Derived.Test.YtnkoknfihhdelaaGreatDoorZME
import Derived.Test.YtnkoknfihhdelaaGreatDoorZMKI
import Derived.Test.YtnkoknfihhdelaaGreatDoorZMF
import Derived.Test.YtnkoknfihhdelaaGreatDoorZKA
import Derived.Test.YtnkoknfihhdelaaGreatDoorZMS
import Derived.Test.YtnkoknfihhdelaaGreatDoorZIO
import Derived.Defers
import Derived.Recover
import Derived.Laws.Pointers
namespace Go.Proofs.YtnkoknfihhdelaaGreatDoor
open Go.ChangeShapes Go.WideShapes Go.ChangeAt Go.RowKit
set_option linter.unusedVariables false
set_option maxRecDepth 100000
section
variable {P:Program}
theorem add_off (g off j:Nat):(⟨g,off,none⟩:Addr).add j=⟨g,off+j,none⟩:=by unfold Addr.add;split <;> simp_all
theorem run_loadVar_sub (w:World) (g off:Nat) (t ty:TypeId) (cs:Array Value) (l:List Value) (fr:Nat × Nat) (d:TypeDesc) (hg:w.heap[g]?=some (.cells cs t fr)) (hl:∀ j v,l[j]?=some v→cs[off+j]?=some v)
  (hu:P.underlying ty=some d) (hd:(match d with | .struct _ | .array _ _=>true | _=>false)=true) (hi:(P.info? ty).map (·.size)=some l.length) :
  (loadVar ty ⟨g,off,none⟩).run P w=.ok (.agg l.toArray) w:=by
 have h:=run_loadCells_list (P:=P) w ⟨g,off,none⟩ l (fun j v hv=>by
  rw [add_off,cell_of_row w g (off+j) cs t fr hg]
  exact hl j v hv)
 cases hq:P.info? ty with
 | none=>simp [hq] at hi
 | some i =>
  have hs:i.size=l.length:=by simpa [hq] using hi
  have hagg:(isAgg ty).run P w=.ok true w:=by
   unfold isAgg
   rw [Sem.run_bind,run_underlying hu w]
   cases d <;> simp_all
  simp [loadVar,Sem.run_bind,hagg,sizeOf,typeInfo,hq,hs,h]
theorem wp_load_sub {o:Oper} {a:Act} {w:World} {K:Act→World→Prop} {Q:Exit→Act→World→Prop} (ty:TypeId) (x:Operand) (ho:o.op=.load ty x)
  (g off:Nat) (hx:a.eval x=.pointer (some ⟨g,off,none⟩)) (t:TypeId) (cs:Array Value) (l:List Value) (fr:Nat × Nat) (d:TypeDesc) (hg:w.heap[g]?=some (.cells cs t fr)) (hl:∀ j v,l[j]?=some v→cs[off+j]?=some v)
  (hu:P.underlying ty=some d) (hd:(match d with | .struct _ | .array _ _=>true | _=>false)=true) (hi:(P.info? ty).map (·.size)=some l.length)
  (h:K (a.put o.dst (.agg l.toArray)) w):o.wp P a w K Q:=by
 unfold Oper.wp execOp
 simp only [ho,hx,Instr.loadAt,Instr.sureAddr,Sem.run_bind,Sem.run_pure,Result.andThen_ok,run_loadVar_sub w g off t ty cs l fr d hg hl hu hd hi]
 exact h
theorem wpList_load_sub {ops:Array Oper} {rest:List Oper} {o:Oper} {a:Act} {w:World} {Q:Exit→Act→World→Prop} (hgd:o.guard=none) (ty:TypeId) (x:Operand) (ho:o.op=.load ty x)
  (g off:Nat) (hx:a.eval x=.pointer (some ⟨g,off,none⟩)) (t:TypeId) (cs:Array Value) (l:List Value) (fr:Nat × Nat) (d:TypeDesc) (hg:w.heap[g]?=some (.cells cs t fr)) (hl:∀ j v,l[j]?=some v→cs[off+j]?=some v)
  (hu:P.underlying ty=some d) (hd:(match d with | .struct _ | .array _ _=>true | _=>false)=true) (hi:(P.info? ty).map (·.size)=some l.length)
  (h:wpList P ops Q rest (a.put o.dst (.agg l.toArray)) w):wpList P ops Q (o :: rest) a w :=
 wpList_plain hgd fun _ hK=>wp_load_sub ty x ho g off hx t cs l fr d hg hl hu hd hi (hK _ _ h)
theorem putA_nil (C:Array Value) (off:Nat):putA C off []=C:=by
 unfold putA
 simp
theorem putA_cons (C:Array Value) (off:Nat) (v:Value) (vs:List Value) (h:off+vs.length+1≤C.size):putA (C.setIfInBounds off v) (off+1) vs=putA C off (v :: vs):=by
 unfold putA
 congr 1
 have hL:off<C.toList.length:=by simp;omega
 rw [Array.toList_setIfInBounds]
 generalize C.toList=L at *
 have e1:(L.set off v).take (off+1)=L.take off++[v]:=by
  rw [List.take_add_one,List.take_set_of_le (Nat.le_refl _)]
  simp [hL]
 have e2:(L.set off v).drop (off+1+vs.length)=L.drop (off+(v :: vs).length):=by
  rw [List.drop_set_of_lt (by omega)]
  congr 1
  simp;omega
 rw [e1,e2]
 simp
theorem run_storeCells_sub (g off:Nat) (t:TypeId):∀ (vs:List Value) (i:Nat) (cur:Array Value) (w:World),w.heap[g]?=some (.cells cur t (0,0))→off+i+vs.length≤cur.size→(∀ v∈vs,v.oneCell'=true) →
  (storeCells ⟨g,off,none⟩ vs i).run P w=.ok () (w.setRow g (putA cur (off+i) vs))
 | [],i,cur,w,hg,hl,_=>by
  rw [putA_nil]
  simp only [storeCells]
  show Result.ok () w=_
  congr 1
  have hlt:g<w.heap.size:=(Array.getElem?_eq_some_iff.1 hg).1
  have hv:w.heap[g]=.cells cur t (0,0):=(Array.getElem?_eq_some_iff.1 hg).2
  unfold World.setRow
  cases w with
  | mk heap tape drawn os output =>
   congr 1
   apply Array.ext
   ·simp
   ·intro k h1 h2
    simp only [Array.getElem_modify]
    split
    ·rename_i hk;subst hk;simp at hv;simp [hv]
    ·rfl
 | v :: rest,i,cur,w,hg,hl,h1=>by
  have hi:off+i<cur.size:=by simp at hl;omega
  have hcell:w.cell? ⟨g,off+i,none⟩=some cur[off+i]:=by simp [World.cell?,hg,hi]
  have hfro:w.frozen? ⟨g,off+i,none⟩=false:=by simp [World.frozen?,hg]
  have hst:(store ((⟨g,off,none⟩:Addr).add i) v).run P w=.ok () (w.setRow g (cur.setIfInBounds (off+i) v)):=by
   rw [add_off,run_store P w _ v _ (h1 v (by simp)),hcell]
   simp [hfro,setCell_eq_setRow w g (off+i) cur t (0,0) v hg]
  have ih:=run_storeCells_sub g off t rest (i+1) (cur.setIfInBounds (off+i) v) (w.setRow g (cur.setIfInBounds (off+i) v)) (setRow_heap w g cur _ t _ hg) (by simp at hl ⊢;omega) (fun x hx=>h1 x (by simp [hx]))
  simp only [storeCells,Sem.run_bind,hst,Result.andThen_ok,ih,setRow_setRow]
  rw [←Nat.add_assoc,putA_cons _ _ _ _ (by simp at hl;omega)]
theorem run_storeVar_sub (w:World) (g off:Nat) (t ty:TypeId) (old cells:Array Value) (hg:w.heap[g]?=some (.cells old t (0,0))) (hi:(P.info? ty).map (·.size)=some cells.size)
  (ho:off+cells.size≤old.size) (h1:cells.all (·.oneCell')=true) :
  (storeVar ty ⟨g,off,none⟩ (.agg cells)).run P w=.ok () (w.setRow g (putA old off cells.toList)):=by
 have:=run_storeCells_sub (P:=P) g off t cells.toList 0 old w hg (by simp;omega) (fun v hv=>(Array.all_eq_true_iff_forall_mem.1 h1) v (by simpa using hv))
 cases hq:P.info? ty with
 | none=>simp [hq] at hi
 | some i =>
  have hs:cells.size=i.size:=by simp [hq] at hi;omega
  simp [storeVar,sizeOf,typeInfo,hq,Value.cells,hs,this]
theorem wp_store_sub {o:Oper} {a:Act} {w:World} {K:Act→World→Prop} {Q:Exit→Act→World→Prop} (ty:TypeId) (x y:Operand) (ho:o.op=.store ty x y)
  (g off:Nat) (cells:Array Value) (hx:a.eval x=.pointer (some ⟨g,off,none⟩)) (hy:a.eval y=.agg cells)
  (t:TypeId) (old:Array Value) (hg:w.heap[g]?=some (.cells old t (0,0))) (hi:(P.info? ty).map (·.size)=some cells.size)
  (hold:off+cells.size≤old.size) (h1:cells.all (·.oneCell')=true)
  (h:K (a.put o.dst undef) (w.setRow g (putA old off cells.toList))):o.wp P a w K Q:=by
 unfold Oper.wp execOp
 simp only [ho,hx,hy,Instr.storeAt,Instr.sureAddr,Sem.run_bind,Sem.run_pure,Result.andThen_ok,run_storeVar_sub w g off t ty old cells hg hi hold h1]
 exact h
theorem wpList_store_sub {ops:Array Oper} {rest:List Oper} {o:Oper} {a:Act} {w:World} {Q:Exit→Act→World→Prop} (hgd:o.guard=none) (ty:TypeId) (x y:Operand) (ho:o.op=.store ty x y)
  (g off:Nat) (cells:Array Value) (hx:a.eval x=.pointer (some ⟨g,off,none⟩)) (hy:a.eval y=.agg cells)
  (t:TypeId) (old:Array Value) (hg:w.heap[g]?=some (.cells old t (0,0))) (hi:(P.info? ty).map (·.size)=some cells.size)
  (hold:off+cells.size≤old.size) (h1:cells.all (·.oneCell')=true)
  (h:wpList P ops Q rest (a.put o.dst undef) (w.setRow g (putA old off cells.toList))):wpList P ops Q (o :: rest) a w :=
 wpList_plain hgd fun _ hK=>wp_store_sub ty x y ho g off cells hx hy t old hg hi hold h1 (hK _ _ h)
end
structure Cq where (g:Bool) (a p y e b t:Nat)
abbrev Cq.L (c:Cq):List Value:=[.bool c.g,.int .u32 (c.a:Int),.int .u8 (c.p:Int),.int .u8 (c.y:Int),.int .u8 (c.e:Int),.int .u16 (c.b:Int),.int .u16 (c.t:Int)]
abbrev Cq.v (c:Cq):Value:=.agg #[.bool c.g,.int .u32 (c.a:Int),.int .u8 (c.p:Int),.int .u8 (c.y:Int),.int .u8 (c.e:Int),.int .u16 (c.b:Int),.int .u16 (c.t:Int)]
def nul:Cq:=⟨false,0,0,0,0,0,0⟩
def Cq.fit (c:Cq):Prop:=c.a<4294967296∧c.p<256∧c.y<256∧c.e<256∧c.b<65536∧c.t<65536
def flat (c:Nat→Cq):Nat→List Value
 | 0=>[]
 | n+1=>flat c n++(c n).L
theorem flat_len (c:Nat→Cq):∀ n,(flat c n).length=7*n
 | 0=>rfl
 | n+1=>by rw [flat,List.length_append,flat_len c n];simp;omega
theorem flat_at (c:Nat→Cq):∀ n r j,r<n→j<7→(flat c n)[7*r+j]?=(c r).L[j]?
 | 0,r,j,h,_=>by omega
 | n+1,r,j,h,hj=>by
  rw [flat]
  by_cases e:r=n
  ·subst e
   rw [List.getElem?_append_right (by rw [flat_len];omega),flat_len]
   congr 1
   omega
  ·rw [List.getElem?_append_left (by rw [flat_len];omega)]
   exact flat_at c n r j (by omega) hj
def upd (c:Nat→Cq) (r:Nat) (x:Cq):Nat→Cq:=fun i=>if i=r then x else c i
theorem flat_congr {c d:Nat→Cq}:∀ {n},(∀ i,i<n→c i=d i)→flat c n=flat d n
 | 0,_=>rfl
 | n+1,h=>by rw [flat,flat,flat_congr (fun i hi=>h i (by omega)),h n (by omega)]
theorem flat_upd (c:Nat→Cq) (r:Nat) (x:Cq):∀ n,r<n→(flat c n).take (7*r)++(x.L++(flat c n).drop (7*r+7))=flat (upd c r x) n
 | 0,h=>by omega
 | n+1,h=>by
  by_cases e:r=n
  ·subst e
   rw [flat,flat,flat_congr (c:=upd c r x) (d:=c) (fun i hi=>by unfold upd;rw [if_neg (by omega)])]
   have h1:(flat c r++(c r).L).take (7*r)=flat c r:=by rw [List.take_append_of_le_length (by rw [flat_len];omega),List.take_of_length_le (by rw [flat_len];omega)]
   have h2:(flat c r++(c r).L).drop (7*r+7)=[]:=by rw [List.drop_of_length_le (by rw [List.length_append,flat_len];simp)]
   rw [h1,h2,List.append_nil]
   unfold upd
   rw [if_pos rfl]
  ·rw [flat,flat,←flat_upd c r x n (by omega)]
   rw [List.take_append_of_le_length (by rw [flat_len];omega),List.drop_append_of_le_length (by rw [flat_len];omega)]
   have h3:upd c r x n=c n:=by unfold upd;rw [if_neg (by omega)]
   rw [h3]
   simp
structure St where (c:Nat→Cq) (cause:Nat) (on was halted:Bool)
def St.L (s:St):List Value:=flat s.c 21++[.int .u32 (s.cause:Int),.bool s.on,.bool s.was,.bool s.halted]
theorem St.len (s:St):s.L.length=151:=by unfold St.L;rw [List.length_append,flat_len];rfl
theorem St.cap (s:St) (r j:Nat) (hr:r<21) (hj:j<7):s.L[7*r+j]?=(s.c r).L[j]?:=by
 unfold St.L
 rw [List.getElem?_append_left (by rw [flat_len];omega)]
 exact flat_at s.c 21 r j hr hj
theorem St.tl (s:St) (j:Nat):s.L[147+j]?=[Value.int .u32 (s.cause:Int),.bool s.on,.bool s.was,.bool s.halted][j]?:=by
 unfold St.L
 rw [List.getElem?_append_right (by rw [flat_len];omega),flat_len]
 congr 1
 omega
def St.put (s:St) (r:Nat) (x:Cq):St:={ s with c:=upd s.c r x }
theorem St.put_L (s:St) (r:Nat) (x:Cq) (hr:r<21):s.L.take (7*r)++(x.L++s.L.drop (7*r+7))=(s.put r x).L:=by
 show (flat s.c 21++_).take _++(x.L++(flat s.c 21++_).drop _)=flat (upd s.c r x) 21++_
 rw [←flat_upd s.c r x 21 hr,List.take_append_of_le_length (by rw [flat_len];omega),List.drop_append_of_le_length (by rw [flat_len];omega)]
 simp [List.append_assoc,St.put]
structure Ins where (o rd r1 r2:Nat) (im:Int)
abbrev Ins.L (i:Ins):List Value:=[.int .u8 (i.o:Int),.int .u8 (i.rd:Int),.int .u8 (i.r1:Int),.int .u8 (i.r2:Int),.int .i32 i.im]
structure Dn where (cause:Nat) (tc:Value) (told:Bool) (out dst:Nat)
abbrev Dn.L (d:Dn):List Value:=[.int .u32 (d.cause:Int),d.tc,.bool d.told,.int .u32 (d.out:Int),.int .u32 (d.dst:Int)]
structure WK where (mp:Value) (A N:St) (i:Ins) (ans:Nat) (d:Dn)
def WK.L (k:WK):List Value:=k.mp :: (k.A.L++(k.N.L++(k.i.L++(.int .u32 (k.ans:Int) :: k.d.L))))
theorem WK.len (k:WK):k.L.length=314:=by
 unfold WK.L
 simp [St.len]
theorem WK.mpc (k:WK):k.L[0]?=some k.mp:=rfl
theorem WK.atA (k:WK) (j:Nat) (hj:j<151):k.L[1+j]?=k.A.L[j]?:=by
 unfold WK.L
 rw [Nat.add_comm,List.getElem?_cons_succ,List.getElem?_append_left (by rw [St.len];omega)]
theorem WK.atN (k:WK) (j:Nat) (hj:j<151):k.L[152+j]?=k.N.L[j]?:=by
 unfold WK.L
 rw [show 152+j=(151+j)+1 by omega,List.getElem?_cons_succ,List.getElem?_append_right (by rw [St.len];omega),St.len,List.getElem?_append_left (by rw [St.len];omega)]
 congr 1
 omega
theorem WK.atT (k:WK) (j:Nat):k.L[303+j]?=(k.i.L++(.int .u32 (k.ans:Int) :: k.d.L))[j]?:=by
 unfold WK.L
 rw [show 303+j=(302+j)+1 by omega,List.getElem?_cons_succ,List.getElem?_append_right (by rw [St.len];omega),St.len,List.getElem?_append_right (by rw [St.len];omega),St.len]
 congr 1
 omega
def Wk (w:World) (g:Nat) (k:WK):Prop:=Blk w g 81 k.L.toArray
theorem Wk.cellA {w:World} {g:Nat} {k:WK} (h:Wk w g k) (r j:Nat) (hr:r<21) (hj:j<7) (o:Nat) (ho:o=1+(7*r+j)):w.cell? ⟨g,o,none⟩=(k.A.c r).L[j]?:=by
 subst ho
 rw [Blk.cell h,List.getElem?_toArray,k.atA _ (by omega),k.A.cap r j hr hj]
theorem Wk.cellN {w:World} {g:Nat} {k:WK} (h:Wk w g k) (r j:Nat) (hr:r<21) (hj:j<7) (o:Nat) (ho:o=152+(7*r+j)):w.cell? ⟨g,o,none⟩=(k.N.c r).L[j]?:=by
 subst ho
 rw [Blk.cell h,List.getElem?_toArray,k.atN _ (by omega),k.N.cap r j hr hj]
theorem Wk.cellT {w:World} {g:Nat} {k:WK} (h:Wk w g k) (j:Nat) (o:Nat) (ho:o=303+j):w.cell? ⟨g,o,none⟩=(k.i.L++(.int .u32 (k.ans:Int) :: k.d.L))[j]?:=by
 subst ho
 rw [Blk.cell h,List.getElem?_toArray,k.atT]
theorem Wk.sevenA {w:World} {g:Nat} {k:WK} (h:Wk w g k) (r:Nat) (hr:r<21):∀ j v,(k.A.c r).L[j]?=some v→k.L.toArray[1+7*r+j]?=some v:=fun j v hv=>by
 have hj:j<7:=by
  have:=(List.getElem?_eq_some_iff.1 hv).1
  simpa using this
 rw [List.getElem?_toArray,Nat.add_assoc,k.atA _ (by omega),k.A.cap r j hr hj]
 exact hv
def WK.putN (k:WK) (r:Nat) (x:Cq):WK:={ k with N:=k.N.put r x }
theorem WK.putN_L (k:WK) (r:Nat) (x:Cq) (hr:r<21):putA k.L.toArray (152+7*r) x.L=(k.putN r x).L.toArray:=by
 unfold putA WK.putN
 congr 1
 show k.L.take (152+7*r)++(x.L++k.L.drop (152+7*r+7))=_
 unfold WK.L
 show (k.mp :: (k.A.L++(k.N.L++_))).take _++(x.L++(k.mp :: (k.A.L++(k.N.L++_))).drop _)=k.mp :: (k.A.L++((k.N.put r x).L++_))
 rw [←St.put_L k.N r x hr,show 152+7*r+7=(151+(7*r+7))+1 by omega,show 152+7*r=(151+7*r)+1 by omega]
 rw [List.take_succ_cons,List.drop_succ_cons,List.take_append,List.drop_append,St.len,List.take_of_length_le (by rw [St.len];omega),List.drop_of_length_le (by rw [St.len];omega)]
 rw [show 151+7*r-151=7*r by omega,show 151+(7*r+7)-151=7*r+7 by omega,List.take_append_of_le_length (by rw [St.len];omega),List.drop_append_of_le_length (by rw [St.len];omega)]
 simp [List.append_assoc]
theorem blk_row {w:World} {g:Nat} {t:TypeId} {C:Array Value} (h:Blk w g t C) (D:Array Value):Blk (w.setRow g D) g t D:=setRow_heap w g C D t (0,0) h
theorem only_row (w:World) (g:Nat) (D:Array Value):Only g w (w.setRow g D):=by
 have hb:∀ k,k≠g→(w.setRow g D).heap[k]?=w.heap[k]?:=fun k hk=>by
  have hk2:¬ g=k:=fun e=>hk e.symm
  unfold World.setRow
  simp [Array.getElem?_modify,hk2]
 exact ⟨fun B hB hs=>⟨rfl,rfl,rfl,by unfold World.setRow;simp,fun k hk=>hb k (by omega)⟩,fun k hk _=>hb k hk⟩
theorem WK.one (k:WK):True:=trivial
set_option maxHeartbeats 1000000 in
theorem c60 (g:Nat) (k:WK) (w:World) (h:Wk w g k):Calls Tryz.prog 60 #[.pointer (some ⟨g,0,none⟩)] w fun e w'=>e=.returned (.int .u32 ((k.A.c 16).a:Int))∧w=w':=by
 have x:w.cell? ⟨g,114,none⟩=some (.int .u32 ((k.A.c 16).a:Int)):=h.cellA 16 1 (by decide) (by decide) 114 rfl
 generalize (k.A.c 16).a=a at *
 clear h
 go_enter Tryz.func60,Tryz.ntmps60
 go_wp2_with fail
 go_ret
 exact ⟨rfl,rfl⟩
set_option maxHeartbeats 1000000 in
theorem c97 (g:Nat) (k:WK) (w:World) (h:Wk w g k):Calls Tryz.prog 97 #[.pointer (some ⟨g,0,none⟩)] w fun e w'=>e=.returned (.int .u32 (k.i.im%4294967296))∧w=w':=by
 have x:w.cell? ⟨g,307,none⟩=some (.int .i32 k.i.im):=h.cellT 4 307 rfl
 generalize k.i.im=a at *
 clear h
 go_enter Tryz.func97,Tryz.ntmps97
 go_wp2_with fail
 go_ret
 exact ⟨rfl,rfl⟩
theorem Wk.seven {w:World} {g:Nat} {k:WK} (h:Wk w g k) (r:Nat) (hr:r<16) :
  w.cell? ⟨g,1+r*7,none⟩=some (.bool (k.A.c r).g)∧w.cell? ⟨g,1+r*7+1,none⟩=some (.int .u32 ((k.A.c r).a:Int))∧w.cell? ⟨g,1+r*7+2,none⟩=some (.int .u8 ((k.A.c r).p:Int)) ∧
  w.cell? ⟨g,1+r*7+3,none⟩=some (.int .u8 ((k.A.c r).y:Int))∧w.cell? ⟨g,1+r*7+4,none⟩=some (.int .u8 ((k.A.c r).e:Int))∧w.cell? ⟨g,1+r*7+5,none⟩=some (.int .u16 ((k.A.c r).b:Int))∧w.cell? ⟨g,1+r*7+6,none⟩=some (.int .u16 ((k.A.c r).t:Int)) :=
 ⟨h.cellA r 0 (by omega) (by decide) _ (by omega),h.cellA r 1 (by omega) (by decide) _ (by omega),h.cellA r 2 (by omega) (by decide) _ (by omega),h.cellA r 3 (by omega) (by decide) _ (by omega),h.cellA r 4 (by omega) (by decide) _ (by omega),h.cellA r 5 (by omega) (by decide) _ (by omega),h.cellA r 6 (by omega) (by decide) _ (by omega)⟩
set_option maxHeartbeats 800000 in
theorem c136 (g:Nat) (k:WK) (w:World) (h:Wk w g k) (r:Nat) (q:Cq) (hrq:k.i.r1=r) (hq:k.A.c r=q) (hr:r<16):Calls Tryz.prog 136 #[.pointer (some ⟨g,0,none⟩)] w fun e w'=>e=.returned q.v∧Below w.heap.size w w':=by
 have xr:w.cell? ⟨g,305,none⟩=some (.int .u8 (r:Int)):=by rw [←hrq];exact h.cellT 2 305 rfl
 have hsv:=h.seven r hr
 rw [hq] at hsv
 have HW:=Lib.hid h
 have HS:=Lib.hid hsv
 have hl:=Blk.lt h
 clear h hrq hsv hq
 have hi:((r:Int)<16)=True:=eq_true (by omega)
 go_enter Tryz.func136,Tryz.ntmps136
 go_wp2_with fail
 have hR:Blk (w.alloc (.cells nCap 29)) w.heap.size 29 nCap:=Blk.new w 29 nCap
 have hK:Wk (w.alloc (.cells nCap 29)) g k:=Blk.alloc HW.out _
 have hO:Below w.heap.size w (w.alloc (.cells nCap 29)):=(Below.refl _ _).alloc (Nat.le_refl _) _
 have hc:∀ o,(w.alloc (.cells nCap 29)).cell? ⟨g,o,none⟩=w.cell? ⟨g,o,none⟩:=fun o=>by rw [Blk.cell hK,Blk.cell HW.out]
 have xr2:(w.alloc (.cells nCap 29)).cell? ⟨g,305,none⟩=some (.int .u8 (r:Int)):=by rw [hc];exact xr
 obtain ⟨x0,x1,x2,x3,x4,x5,x6⟩:=HS.out
 rw [←hc] at x0 x1 x2 x3 x4 x5 x6
 have y0:=hR.cell 0
 have y1:=hR.cell 1
 have y2:=hR.cell 2
 have y3:=hR.cell 3
 have y4:=hR.cell 4
 have y5:=hR.cell 5
 have y6:=hR.cell 6
 simp only [nCap,List.getElem?_toArray,List.getElem?_cons_zero,List.getElem?_cons_succ] at y0 y1 y2 y3 y4 y5 y6
 have f0:=hR.frozen 0
 have f1:=hR.frozen 1
 have f2:=hR.frozen 2
 have f3:=hR.frozen 3
 have f4:=hR.frozen 4
 have f5:=hR.frozen 5
 have f6:=hR.frozen 6
 have HO:=Lib.hid hO
 have HB:=Lib.hid hR
 clear hR hK hO xr hc
 generalize w.alloc (.cells nCap 29)=W at *
 go_still_tail 11,(by kernel_rfl)
 go_wp2_with fail
 refine bodyPost_ret (v:=q.v) (by simp [results,Tryz.results136,go_sem,y0,y1,y2,y3,y4,y5,y6]) rfl ⟨rfl,?_⟩
 exact ((((((((HO.out).setCell (Nat.le_refl _) _).setCell (Nat.le_refl _) _).setCell (Nat.le_refl _) _).setCell (Nat.le_refl _) _).setCell (Nat.le_refl _) _).setCell (Nat.le_refl _) _).setCell (Nat.le_refl _) _).drew
set_option maxHeartbeats 800000 in
theorem c98 (g:Nat) (k:WK) (w:World) (h:Wk w g k) (r:Nat) (q:Cq) (hrq:k.i.r2=r) (hq:k.A.c r=q) (hr:r<16):Calls Tryz.prog 98 #[.pointer (some ⟨g,0,none⟩)] w fun e w'=>e=.returned q.v∧Below w.heap.size w w':=by
 have xr:w.cell? ⟨g,306,none⟩=some (.int .u8 (r:Int)):=by rw [←hrq];exact h.cellT 3 306 rfl
 have hsv:=h.seven r hr
 rw [hq] at hsv
 have HW:=Lib.hid h
 have HS:=Lib.hid hsv
 have hl:=Blk.lt h
 clear h hrq hsv hq
 have hi:((r:Int)<16)=True:=eq_true (by omega)
 go_enter Tryz.func98,Tryz.ntmps98
 go_wp2_with fail
 have hR:Blk (w.alloc (.cells nCap 29)) w.heap.size 29 nCap:=Blk.new w 29 nCap
 have hK:Wk (w.alloc (.cells nCap 29)) g k:=Blk.alloc HW.out _
 have hO:Below w.heap.size w (w.alloc (.cells nCap 29)):=(Below.refl _ _).alloc (Nat.le_refl _) _
 have hc:∀ o,(w.alloc (.cells nCap 29)).cell? ⟨g,o,none⟩=w.cell? ⟨g,o,none⟩:=fun o=>by rw [Blk.cell hK,Blk.cell HW.out]
 have xr2:(w.alloc (.cells nCap 29)).cell? ⟨g,306,none⟩=some (.int .u8 (r:Int)):=by rw [hc];exact xr
 obtain ⟨x0,x1,x2,x3,x4,x5,x6⟩:=HS.out
 rw [←hc] at x0 x1 x2 x3 x4 x5 x6
 have y0:=hR.cell 0
 have y1:=hR.cell 1
 have y2:=hR.cell 2
 have y3:=hR.cell 3
 have y4:=hR.cell 4
 have y5:=hR.cell 5
 have y6:=hR.cell 6
 simp only [nCap,List.getElem?_toArray,List.getElem?_cons_zero,List.getElem?_cons_succ] at y0 y1 y2 y3 y4 y5 y6
 have f0:=hR.frozen 0
 have f1:=hR.frozen 1
 have f2:=hR.frozen 2
 have f3:=hR.frozen 3
 have f4:=hR.frozen 4
 have f5:=hR.frozen 5
 have f6:=hR.frozen 6
 have HO:=Lib.hid hO
 have HB:=Lib.hid hR
 clear hR hK hO xr hc
 generalize w.alloc (.cells nCap 29)=W at *
 go_still_tail 11,(by kernel_rfl)
 go_wp2_with fail
 refine bodyPost_ret (v:=q.v) (by simp [results,Tryz.results98,go_sem,y0,y1,y2,y3,y4,y5,y6]) rfl ⟨rfl,?_⟩
 exact ((((((((HO.out).setCell (Nat.le_refl _) _).setCell (Nat.le_refl _) _).setCell (Nat.le_refl _) _).setCell (Nat.le_refl _) _).setCell (Nat.le_refl _) _).setCell (Nat.le_refl _) _).setCell (Nat.le_refl _) _).drew
theorem info29s:(Tryz.prog.info? 29).map (·.size)=some 7:=by kernel_rfl
theorem arr_all (q:Cq):(#[Value.bool q.g,.int .u32 (q.a:Int),.int .u8 (q.p:Int),.int .u8 (q.y:Int),.int .u8 (q.e:Int),.int .u16 (q.b:Int),.int .u16 (q.t:Int)]).all (·.oneCell')=true:=by simp [Value.oneCell']
set_option maxHeartbeats 800000 in
theorem c95 (g:Nat) (k:WK) (q:Cq) (w:World) (h:Wk w g k) (r:Nat) (hrq:k.i.rd=r) (hr:r<16):Calls Tryz.prog 95 #[.pointer (some ⟨g,0,none⟩),q.v] w fun e w'=>e=.returned (.tuple #[])∧Wk w' g (k.putN r q)∧Only g w w':=by
 have xr:w.cell? ⟨g,304,none⟩=some (.int .u8 (r:Int)):=by rw [←hrq];exact h.cellT 1 304 rfl
 have HW:=Lib.hid h
 have hl:=Blk.lt h
 have HP:=Lib.hid (k.putN_L r q (by omega))
 clear h hrq
 have hi:((r:Int)<16)=True:=eq_true (by omega)
 go_enter Tryz.func95,Tryz.ntmps95
 go_wp2_with fail
 have hR:=Blk.new w 29 #[.bool q.g,.int .u32 (q.a:Int),.int .u8 (q.p:Int),.int .u8 (q.y:Int),.int .u8 (q.e:Int),.int .u16 (q.b:Int),.int .u16 (q.t:Int)]
 have hK:Wk (w.alloc (.cells #[.bool q.g,.int .u32 (q.a:Int),.int .u8 (q.p:Int),.int .u8 (q.y:Int),.int .u8 (q.e:Int),.int .u16 (q.b:Int),.int .u16 (q.t:Int)] 29)) g k:=Blk.alloc HW.out _
 have hO:Only g w (w.alloc (.cells #[.bool q.g,.int .u32 (q.a:Int),.int .u8 (q.p:Int),.int .u8 (q.y:Int),.int .u8 (q.e:Int),.int .u16 (q.b:Int),.int .u16 (q.t:Int)] 29)):=(Only.refl _ _).alloc _
 have hc:∀ o,(w.alloc (.cells #[.bool q.g,.int .u32 (q.a:Int),.int .u8 (q.p:Int),.int .u8 (q.y:Int),.int .u8 (q.e:Int),.int .u16 (q.b:Int),.int .u16 (q.t:Int)] 29)).cell? ⟨g,o,none⟩=w.cell? ⟨g,o,none⟩:=fun o=>by rw [Blk.cell hK,Blk.cell HW.out]
 rw [←hc] at xr
 have y0:=hR.cell 0
 have y1:=hR.cell 1
 have y2:=hR.cell 2
 have y3:=hR.cell 3
 have y4:=hR.cell 4
 have y5:=hR.cell 5
 have y6:=hR.cell 6
 simp only [List.getElem?_toArray,List.getElem?_cons_zero,List.getElem?_cons_succ] at y0 y1 y2 y3 y4 y5 y6
 have HO:=Lib.hid hO
 have HK:=Lib.hid hK
 clear hR hK hO hc
 generalize w.alloc (.cells #[.bool q.g,.int .u32 (q.a:Int),.int .u8 (q.p:Int),.int .u8 (q.y:Int),.int .u8 (q.e:Int),.int .u16 (q.b:Int),.int .u16 (q.t:Int)] 29)=W at *
 go_still_tail 11,(by kernel_rfl)
 change wpList _ _ _ _ _ (World.drew _)
 refine wpList_store_sub rfl 29 (.tmp 14) (.tmp 10) rfl g (152+r*7) #[.bool q.g,.int .u32 (q.a:Int),.int .u8 (q.p:Int),.int .u8 (q.y:Int),.int .u8 (q.e:Int),.int .u16 (q.b:Int),.int .u16 (q.t:Int)] rfl rfl 81 k.L.toArray HK.out.drew info29s (by have:=k.len;simp;omega) (arr_all q) ?_
 have hput:putA k.L.toArray (152+r*7) (#[Value.bool q.g,.int .u32 (q.a:Int),.int .u8 (q.p:Int),.int .u8 (q.y:Int),.int .u8 (q.e:Int),.int .u16 (q.b:Int),.int .u16 (q.t:Int)]).toList=(k.putN r q).L.toArray:=by
  rw [Nat.mul_comm r 7]
  exact HP.out
 rw [hput]
 have HK2:=Lib.hid (blk_row (HK.out.drew) (k.putN r q).L.toArray)
 have HO2:=Lib.hid ((HO.out.drew).trans (only_row W.drew g (k.putN r q).L.toArray))
 clear hput HP
 generalize (W.drew.setRow g (k.putN r q).L.toArray)=W2 at *
 go_wp2_with fail
 go_end0
 exact ⟨rfl,HK2.out,HO2.out⟩
def Cq.sa (q:Cq) (n:Nat):Cq:=⟨q.g&&(decide (q.y=0)&&decide (Ca.bs (q.e%16) (q.b%512) q.a=Ca.bs (q.e%16) (q.b%512) n)),n,q.p,q.y,q.e,q.b,q.t⟩
theorem sa_call (q:Cq) (hq:q.fit) (n:Nat) (hn:n<4294967296) (w:World):Calls Tryz.prog 91 #[q.v,.int .u32 (n:Int)] w fun e w'=>e=.returned (q.sa n).v∧Below w.heap.size w w' :=
 Ca.c18b q.g q.a q.p q.y q.e q.b q.t n hq.1 hq.2.2.1 hq.2.2.2.1 hq.2.2.2.2.1 hq.2.2.2.2.2 hn w
theorem Wk.sevenP {w:World} {g:Nat} {k:WK} (h:Wk w g k) (r o:Nat) (hr:r<21) (ho:o=1+7*r) :
  w.cell? ⟨g,o,none⟩=some (.bool (k.A.c r).g)∧w.cell? ⟨g,o+1,none⟩=some (.int .u32 ((k.A.c r).a:Int))∧w.cell? ⟨g,o+2,none⟩=some (.int .u8 ((k.A.c r).p:Int)) ∧
  w.cell? ⟨g,o+3,none⟩=some (.int .u8 ((k.A.c r).y:Int))∧w.cell? ⟨g,o+4,none⟩=some (.int .u8 ((k.A.c r).e:Int))∧w.cell? ⟨g,o+5,none⟩=some (.int .u16 ((k.A.c r).b:Int))∧w.cell? ⟨g,o+6,none⟩=some (.int .u16 ((k.A.c r).t:Int)) :=
 ⟨h.cellA r 0 hr (by decide) _ (by omega),h.cellA r 1 hr (by decide) _ (by omega),h.cellA r 2 hr (by decide) _ (by omega),h.cellA r 3 hr (by decide) _ (by omega),h.cellA r 4 hr (by decide) _ (by omega),h.cellA r 5 hr (by decide) _ (by omega),h.cellA r 6 hr (by decide) _ (by omega)⟩
set_option maxHeartbeats 800000 in
theorem c59 (g:Nat) (k:WK) (q:Cq) (n:Nat) (w:World) (h:Wk w g k) (hq:k.A.c 16=q) (hf:q.fit) (hn:n<4294967296):Calls Tryz.prog 59 #[.pointer (some ⟨g,0,none⟩),.int .u32 (n:Int)] w fun e w'=>e=.returned (.tuple #[])∧Wk w' g (k.putN 16 (q.sa n))∧Only g w w':=by
 have hsv:=h.sevenP 16 113 (by decide) rfl
 rw [hq] at hsv
 have HW:=Lib.hid h
 have hl:=Blk.lt h
 have K:=Lib.hid (sa_call q hf n hn w)
 obtain ⟨q2,hq2⟩:∃ q2,q.sa n=q2:=⟨_,rfl⟩
 rw [hq2] at K
 have HP:=Lib.hid (k.putN_L 16 q2 (by decide))
 rw [hq2]
 obtain ⟨x0,x1,x2,x3,x4,x5,x6⟩:=hsv
 clear h hq hf hq2
 go_enter Tryz.func59,Tryz.ntmps59
 go_wp2_with fail
 refine K.out.mono ?_
 rintro _ w1 ⟨rfl,hb⟩
 have HB:=Lib.hid hb
 clear hb x0 x1 x2 x3 x4 x5 x6 K
 have HK:Hid (Wk w1 g k):=Lib.hid (Blk.below HW.out HB.out hl)
 go_wp2_with (refine wpList_store_sub rfl 29 (.tmp 14) (.tmp 11) rfl g 264 #[.bool q2.g,.int .u32 (q2.a:Int),.int .u8 (q2.p:Int),.int .u8 (q2.y:Int),.int .u8 (q2.e:Int),.int .u16 (q2.b:Int),.int .u16 (q2.t:Int)] rfl rfl 81 k.L.toArray HK.out info29s (by have:=k.len;simp;omega) (arr_all q2) ?_)
 have hput:putA k.L.toArray 264 (#[Value.bool q2.g,.int .u32 (q2.a:Int),.int .u8 (q2.p:Int),.int .u8 (q2.y:Int),.int .u8 (q2.e:Int),.int .u16 (q2.b:Int),.int .u16 (q2.t:Int)]).toList=(k.putN 16 q2).L.toArray:=HP.out
 rw [hput]
 have HK2:=Lib.hid (blk_row HK.out (k.putN 16 q2).L.toArray)
 have HO2:=Lib.hid (((Only.refl g w).below HB.out).trans (only_row w1 g (k.putN 16 q2).L.toArray))
 clear hput HP
 generalize (w1.setRow g (k.putN 16 q2).L.toArray)=W2 at *
 go_wp2_with fail
 go_end0
 exact ⟨rfl,HK2.out,HO2.out⟩
def devB (a:Nat):Bool:=decide (65280≤a∧a<65536)
set_option maxHeartbeats 400000 in
theorem c88 (a:Nat) (w:World):Calls Tryz.prog 88 #[.int .u32 (a:Int)] w fun e w'=>e=.returned (.bool (devB a))∧w=w':=by
 by_cases h1:65280≤a
 ·by_cases h2:a<65536
  ·have HD:Hid (devB a=true):=Lib.hid (by unfold devB;exact decide_eq_true ⟨h1,h2⟩)
   have b1:decide ((65280:Int)≤(a:Int))=true:=decide_eq_true (by omega)
   have b2:decide ((a:Int)<65536)=true:=decide_eq_true (by omega)
   rw [HD.out]
   clear h1 h2
   go_enter Tryz.func88,Tryz.ntmps88
   go_wp2_with fail
   go_ret
   exact ⟨rfl,rfl⟩
  ·have HD:Hid (devB a=false):=Lib.hid (by unfold devB;exact decide_eq_false (fun q=>h2 q.2))
   have b1:decide ((65280:Int)≤(a:Int))=true:=decide_eq_true (by omega)
   have b2:decide ((a:Int)<65536)=false:=decide_eq_false (by omega)
   rw [HD.out]
   clear h1 h2
   go_enter Tryz.func88,Tryz.ntmps88
   go_wp2_with fail
   go_ret
   exact ⟨rfl,rfl⟩
 ·have HD:Hid (devB a=false):=Lib.hid (by unfold devB;exact decide_eq_false (fun q=>h1 q.1))
  have b1:decide ((65280:Int)≤(a:Int))=false:=decide_eq_false (by omega)
  rw [HD.out]
  clear h1
  go_enter Tryz.func88,Tryz.ntmps88
  go_wp2_with fail
  go_ret
  exact ⟨rfl,rfl⟩
structure Sv (g B:Nat) (w w':World):Prop where
 os:w'.os=w.os
 tape:w'.tape=w.tape
 output:w'.output=w.output
 size:w.heap.size≤w'.heap.size
 block:∀ k,k<B→k≠g→w'.heap[k]?=w.heap[k]?
theorem Only.sv {g B:Nat} {w w':World} (h:Only g w w') (hB:B≤w.heap.size):Sv g B w w':=by
 have h0:=h.1 0 (Nat.zero_le _) (Nat.zero_le _)
 exact ⟨h0.os,h0.tape,h0.output,h0.size,fun k hk hg=>h.2 k hg (by omega)⟩
theorem Sv.trans {g B:Nat} {a b c:World} (h:Sv g B a b) (k:Sv g B b c):Sv g B a c:=⟨k.os.trans h.os,k.tape.trans h.tape,k.output.trans h.output,Nat.le_trans h.size k.size,fun i hi hg=>(k.block i hi hg).trans (h.block i hi hg)⟩
theorem Sv.blk {g B b:Nat} {t:TypeId} {C:Array Value} {w w':World} (h:Sv g B w w') (hb:b<B) (hg:b≠g) (k:Blk w b t C):Blk w' b t C:=(h.block b hb hg).trans k
theorem Sv.below {g B:Nat} {w w':World} (h:Sv g B w w') (hg:w.heap.size≤g) (hB:w.heap.size≤B):Below w.heap.size w w':=⟨h.os,h.tape,h.output,h.size,fun k hk=>h.block k (by omega) (by omega)⟩
theorem Below.sv {g B:Nat} {w w':World} (h:Below w.heap.size w w') (hB:B≤w.heap.size):Sv g B w w':=⟨h.os,h.tape,h.output,h.size,fun k hk _=>h.block k (by omega)⟩
theorem l_cells (w:World) (N:Nat) (hN:w.heap.size=N) (l:List Value) (t:TypeId):∀ (j:Nat) (u:Value),l[j]?=some u→(w.alloc (.cells l.toArray t)).cell? ((⟨N,0,none⟩:Addr).add j)=some u:=by
 intro j u h
 subst hN
 have ha:((⟨w.heap.size,0,none⟩:Addr).add j)=⟨w.heap.size,j,none⟩:=by unfold Addr.add;split <;> simp_all
 rw [ha]
 rw [World.cell?_alloc_new]
 simpa using h
def WK.tc (k:WK) (v:Value):WK:={ k with d:={ k.d with tc:=v } }
theorem WK.tc_L (k:WK) (v:Value):k.L.toArray.setIfInBounds 310 v=(k.tc v).L.toArray:=by
 apply Array.ext'
 rw [Array.toList_setIfInBounds]
 show k.L.set 310 v=(k.tc v).L
 unfold WK.L
 show (k.mp :: (k.A.L++(k.N.L++(k.i.L++(.int .u32 (k.ans:Int) :: k.d.L))))).set 310 v=_
 rw [show 310=309+1 by omega,List.set_cons_succ,List.set_append_right _ _ (by rw [St.len];omega),St.len,List.set_append_right _ _ (by rw [St.len];omega),St.len]
 rfl
set_option maxHeartbeats 800000 in
theorem c89 (g B:Nat) (k:WK) (wh n:Int) (at':Nat) (tc:Value) (m:Nat) (xs:List Value) (w:World) (h:Wk w g k) (htc:k.d.tc=tc) (ho:w.ownsRow B 59 3 tc m xs) (hg:g<B) (hB:B≤w.heap.size) (hm:m≤65536) :
  Calls Tryz.prog 89 #[.pointer (some ⟨g,0,none⟩),.int .i64 wh,.int .u32 (at':Int),.int .i64 n] w fun e w'=>e=.returned (.tuple #[])∧∃ v,Wk w' g (k.tc v)∧w'.ownsRow B 59 3 v (m+1) (xs++[.int .i64 wh,.int .u32 (at':Int),.int .i64 n])∧Sv g B w w':=by
 have x:w.cell? ⟨g,310,none⟩=some tc:=by rw [←htc];exact h.cellT 7 310 rfl
 obtain ⟨i0,hi,hz⟩:∃ i,Tryz.prog.info? 59=some i∧(i.zero,i.size,i.bytes)=(some (.agg #[.int .i64 0,.int .u32 0,.int .i64 0]),3,24):=by
  have h:(Tryz.prog.info? 59).map (fun i=>(i.zero,i.size,i.bytes))=some (some (.agg #[.int .i64 0,.int .u32 0,.int .i64 0]),3,24):=by kernel_rfl
  cases hq:Tryz.prog.info? 59 with
  | none=>rw [hq] at h;cases h
  | some i=>rw [hq] at h;exact ⟨i,rfl,by simpa using h⟩
 simp only [Prod.mk.injEq] at hz
 obtain ⟨hz0,hz1,hz2⟩:=hz
 have HI:=Lib.hid hi
 have HZ0:=Lib.hid hz0
 have HZ1:=Lib.hid hz1
 have HZ2:=Lib.hid hz2
 have HW:=Lib.hid h
 have HO:=Lib.hid ho
 have hl:=Blk.lt h
 have hfz:w.frozen? ⟨g,310,none⟩=false:=Blk.frozen h 310
 clear hi hz0 hz1 hz2 h ho htc
 go_enter Tryz.func89,Tryz.ntmps89
 go_wp2_with (at_builtin;refine wpList_append_own _ rfl _ _ 39 rfl B 59 i0 (.agg #[.int .i64 0,.int .u32 0,.int .i64 0]) 3 24 Tryz.underlying39 HI.out HZ0.out HZ1.out HZ2.out rfl (by decide) _ _ _ rfl (HO.out.alloc _) ⟨w.heap.size,0,none⟩ 1 1 [.int .i64 wh,.int .u32 (at':Int),.int .i64 n] rfl rfl (l_cells w w.heap.size rfl [.int .i64 wh,.int .u32 (at':Int),.int .i64 n] 59) (fun y hy=>by simp at hy;rcases hy with rfl | rfl | rfl <;> rfl) (by unfold maxLen;omega) (by omega) (by simp;omega) ?_)
 intro v w5 hown5 hgrow5 _
 obtain ⟨A,c,rfl⟩:∃ A c,v=.slice A (m+1) c:=by
  rcases hown5.2 with ⟨hv,h0⟩ | ⟨g,cap,cur,hv,_⟩
  ·omega
  ·exact ⟨_,cap,hv⟩
 have hK5:Wk w5 g k:=by
  refine (hgrow5.block g (by simp;omega) (fun e=>?_)).trans (Blk.alloc HW.out _)
  have:=(HO.out.lt g e.symm).1
  omega
 have hS5:Sv g B w w5:=by
  have hsz:=hgrow5.size
  simp at hsz
  refine ⟨hgrow5.os,hgrow5.tape,hgrow5.output,by omega,fun k' hk hkg=>?_⟩
  rw [hgrow5.block k' (by simp;omega) (fun e=>by have:=(HO.out.lt k' e.symm).1;omega)]
  exact Below.heap_alloc w _ k' (by omega)
 have hx5:=Blk.cell hK5 310
 rw [←Blk.cell HW.out,x] at hx5
 have hf5:=Blk.frozen hK5 310
 have HK5:=Lib.hid hK5
 have HS5:=Lib.hid hS5
 have HO5:=Lib.hid hown5
 have HT:=Lib.hid (k.tc_L (.slice A (m+1) c))
 have hl5:=Blk.lt hK5
 clear hK5 hS5 hown5 hgrow5 x hfz
 go_wp2_with fail
 go_end0
 refine ⟨rfl,.slice A (m+1) c,?_,?_,HS5.out.trans ⟨rfl,rfl,rfl,by simp,fun k' _ hg'=>Below.heap_setCell _ _ _ _ hg'⟩⟩
 ·have:=Blk.set_ HK5.out 310 (.slice A (m+1) c)
  rw [HT.out] at this
  exact this
 ·have hne:(Value.slice A (m+1) c).ownBlock≠some g:=fun e=>by have:=(HO5.out.lt g e).1;omega
  exact HO5.out.kept (row:=some g) ⟨rfl,rfl,rfl,by simp,fun k' _ h'=>Below.heap_setCell _ _ _ _ (fun e=>h' (by rw [e]))⟩ (Or.inr hne)
def toI (i:In.Ins):Ins:=⟨i.o,i.d,i.a,i.b,i.m⟩
def WK.ins (k:WK) (i:Ins):WK:={ k with i:=i }
theorem put_mid (x:Value) (A N I J T:List Value) (hA:A.length=151) (hN:N.length=151) (hI:I.length=5) (hJ:J.length=5):putA (x :: (A++(N++(I++T)))).toArray 303 J=(x :: (A++(N++(J++T)))).toArray:=by
 unfold putA
 rw [hJ]
 congr 1
 have e1:(x :: (A++(N++(I++T)))).take 303=x :: (A++N):=by
  rw [show 303=302+1 by omega,List.take_succ_cons,←List.append_assoc,List.take_append_of_le_length (by simp;omega),List.take_of_length_le (by simp;omega)]
 have e2:(x :: (A++(N++(I++T)))).drop (303+5)=T:=by
  rw [show 303+5=307+1 by omega,List.drop_succ_cons,←List.append_assoc,←List.append_assoc,List.drop_append_of_le_length (by simp;omega),List.drop_of_length_le (by simp;omega),List.nil_append]
 show List.take 303 (x :: (A++(N++(I++T))))++(J++List.drop (303+5) (x :: (A++(N++(I++T)))))=_
 rw [e1,e2]
 simp
theorem WK.ins_L (k:WK) (i:Ins):putA k.L.toArray 303 i.L=(k.ins i).L.toArray :=
 put_mid k.mp k.A.L k.N.L k.i.L i.L (.int .u32 (k.ans:Int) :: k.d.L) k.A.len k.N.len rfl rfl
theorem info53s:(Tryz.prog.info? 53).map (·.size)=some 5:=by kernel_rfl
theorem ins_all (i:Ins):(i.L.toArray).all (·.oneCell')=true:=by simp [Value.oneCell']
theorem glob_sv {g B:Nat} {w w':World} (h:In.Glob w) (hs:Sv g B w w') (hg:3≤g) (hB:3≤B):In.Glob w':=by
 obtain ⟨⟨a,b,c⟩,⟨a1,b1,c1⟩,a2,b2,c2⟩:=h
 exact ⟨⟨a,b,(hs.block 0 (by omega) (by omega)).trans c⟩,⟨a1,b1,(hs.block 1 (by omega) (by omega)).trans c1⟩,a2,b2,(hs.block 2 (by omega) (by omega)).trans c2⟩
theorem c58_may (g:Nat) (k:WK) (q:Cq) (w:World) (h:Wk w g k) (hq:k.A.c 16=q) (hf:q.fit) (hmay:Ca.may q.g q.a q.p q.y q.e q.b q.t 8 q.a 4=false) :
  Calls Tryz.prog 58 #[.pointer (some ⟨g,0,none⟩)] w fun e w'=>e=.panicked [{ v:=.iface 118 (.agg #[.int .u32 1]),recovered:=false }]∧Below w.heap.size w w':=by
 have K60:=Lib.hid (c60 g k w h)
 have hsv:=h.sevenP 16 113 (by decide) rfl
 rw [hq] at hsv K60
 have KM:=Lib.hid (Ca.c36 q.g q.a q.p q.y q.e q.b q.t 8 q.a 4 hf.1 hf.2.1 hf.2.2.1 hf.2.2.2.1 hf.2.2.2.2.1 hf.2.2.2.2.2 (by decide) (by have:=hf.1;omega) (by decide) w)
 rw [hmay] at KM
 have hl:=Blk.lt h
 have ha:=hf.1
 obtain ⟨x0,x1,x2,x3,x4,x5,x6⟩:=hsv
 have hcv:∀ W,(convert 25 84 (.int .u32 (q.a:Int))).run Tryz.prog W=.ok (.int .u64 (q.a:Int)) W:=fun W=>by
  have:IntKind.u64.wrap (q.a:Int)=(q.a:Int):=by rw [IntKind.wrap_u64];omega
  simp [convert,run_underlying Tryz.underlying25,run_underlying Tryz.underlying84,this,go_sem]
 clear h hq hf hmay
 go_enter Tryz.func58,Tryz.ntmps58
 go_wp2_with fail
 refine K60.out.mono ?_
 rintro _ _ ⟨rfl,rfl⟩
 go_wp2_with fail
 refine KM.out.mono ?_
 rintro _ w1 ⟨rfl,hb⟩
 have HB:=Lib.hid hb
 clear hb x0 x1 x2 x3 x4 x5 x6
 go_wp2_with fail
 exact ⟨rfl,rfl,HB.out⟩
set_option maxHeartbeats 1000000 in
theorem c58_ok (g B:Nat) (k:WK) (q:Cq) (b:Nat) (M:Nat→Nat) (T:Nat→Bool) (tc:Value) (m:Nat) (xs:List Value) (i:In.Ins) (w:World) (h:Wk w g k) (hq:k.A.c 16=q) (hf:q.fit) (hmay:Ca.may q.g q.a q.p q.y q.e q.b q.t 8 q.a 4=true) (hd:devB q.a=false)
  (hmp:k.mp=.pointer (some ⟨b,0,none⟩)) (hm:Mem w b M T) (hw:wordB q.a 4=true) (hbB:b<B) (hbg:b≠g) (htc:k.d.tc=tc) (ho:w.ownsRow B 59 3 tc m xs) (hg:g<B) (hB:B≤w.heap.size) (hm6:m≤65536) (hgl:In.Glob w) (hg3:3≤g)
  (hn:numL M q.a 4<4294967296) (hget:In.get (numL M q.a 4)=(i,0)) :
  Calls Tryz.prog 58 #[.pointer (some ⟨g,0,none⟩)] w fun e w'=>e=.returned (.tuple #[])∧∃ v,Wk w' g ((k.tc v).ins (toI i))∧w'.ownsRow B 59 3 v (m+1) (xs++[.int .i64 1,.int .u32 (q.a:Int),.int .i64 4])∧Sv g B w w':=by
 have K60:=Lib.hid (c60 g k w h)
 have hsv:=h.sevenP 16 113 (by decide) rfl
 rw [hq] at hsv K60
 have KM:=Lib.hid (Ca.c36 q.g q.a q.p q.y q.e q.b q.t 8 q.a 4 hf.1 hf.2.1 hf.2.2.1 hf.2.2.2.1 hf.2.2.2.2.1 hf.2.2.2.2.2 (by decide) (by have:=hf.1;omega) (by decide) w)
 rw [hmay] at KM
 have KD:=Lib.hid (c88 q.a)
 rw [hd] at KD
 have hl:=Blk.lt h
 have ha:=hf.1
 have x7:w.cell? ⟨g,0,none⟩=some (.pointer (some ⟨b,0,none⟩)):=by rw [←hmp];exact Blk.cell h 0
 obtain ⟨x0,x1,x2,x3,x4,x5,x6⟩:=hsv
 have hcv:∀ W,(convert 25 84 (.int .u32 (q.a:Int))).run Tryz.prog W=.ok (.int .u64 (q.a:Int)) W:=fun W=>by
  have:IntKind.u64.wrap (q.a:Int)=(q.a:Int):=by rw [IntKind.wrap_u64];omega
  simp [convert,run_underlying Tryz.underlying25,run_underlying Tryz.underlying84,this,go_sem]
 have KL:Hid (∀ w1,Below w.heap.size w w1→Calls Tryz.prog 27 #[.pointer (some ⟨b,0,none⟩),.int .u32 (q.a:Int),.int .i64 4] w1 fun e w'=>e=.returned (.tuple #[.int .u32 (numL M q.a 4:Int),.int .i64 0])∧w1=w'):=Lib.hid (fun w1 hb=>mLoad b q.a 4 M T w1 (hm.below hb (by have:=hm.lt;exact this)) hw)
 have KT:Hid (∀ w1,Below w.heap.size w w1→Calls Tryz.prog 89 #[.pointer (some ⟨g,0,none⟩),.int .i64 1,.int .u32 (q.a:Int),.int .i64 4] w1 fun e w'=>e=.returned (.tuple #[])∧∃ v,Wk w' g (k.tc v)∧w'.ownsRow B 59 3 v (m+1) (xs++[.int .i64 1,.int .u32 (q.a:Int),.int .i64 4])∧Sv g B w1 w'):=Lib.hid (fun w1 hb=>c89 g B k 1 4 q.a tc m xs w1 (Blk.below h hb hl) htc (ho.kept (row:=none) ⟨hb.os,hb.tape,hb.output,hb.size,fun k' hk _=>hb.block k' hk⟩ (by cases hv:tc.ownBlock <;> simp)) hg (Nat.le_trans hB hb.size) hm6)
 have HGL:=Lib.hid hgl
 obtain ⟨n,hnn⟩:∃ n,numL M q.a 4=n:=⟨_,rfl⟩
 rw [hnn] at KL hn hget
 have HGET:=Lib.hid hget
 have HI:Hid (∀ v,putA (k.tc v).L.toArray 303 (toI i).L=((k.tc v).ins (toI i)).L.toArray):=Lib.hid (fun v=>(k.tc v).ins_L (toI i))
 clear h hq hf hmay hd hmp hm hw htc ho hgl hnn hget
 go_enter Tryz.func58,Tryz.ntmps58
 go_wp2_with fail
 refine K60.out.mono ?_
 rintro _ _ ⟨rfl,rfl⟩
 go_wp2_with fail
 refine KM.out.mono ?_
 rintro _ w1 ⟨rfl,hb⟩
 have HB:=Lib.hid hb
 have x8:w1.cell? ⟨g,0,none⟩=some (.pointer (some ⟨b,0,none⟩)):=(hb.cell (p:=⟨g,0,none⟩) hl).trans x7
 clear hb x0 x1 x2 x3 x4 x5 x6 x7
 go_wp2_with fail
 refine (KD.out _).mono ?_
 rintro _ _ ⟨rfl,rfl⟩
 go_wp2_with fail
 refine (KL.out _ HB.out).mono ?_
 rintro _ _ ⟨rfl,rfl⟩
 go_wp2_with fail
 refine (KT.out _ HB.out).mono ?_
 rintro _ w2 ⟨rfl,v,hk2,ho2,hs2⟩
 have HS2:=Lib.hid ((Below.sv HB.out hB).trans hs2)
 have HK2:=Lib.hid hk2
 have HO2:=Lib.hid ho2
 have hB2:B≤w2.heap.size:=Nat.le_trans hB HS2.out.size
 have hg2:In.Glob w2:=glob_sv HGL.out HS2.out hg3 (by omega)
 have KG:=Lib.hid (In.c9 n hn w2 hg2)
 rw [HGET.out] at KG
 clear hk2 ho2 hs2 hg2 x8
 go_wp2_with fail
 refine KG.out.mono ?_
 rintro _ w3 ⟨rfl,hb3⟩
 have HB3:=Lib.hid hb3
 have hl2:=Blk.lt HK2.out
 have HK3:Hid (Wk w3 g (k.tc v)):=Lib.hid (Blk.below HK2.out hb3 hl2)
 have HO3:Hid (w3.ownsRow B 59 3 v (m+1) (xs++[.int .i64 1,.int .u32 (q.a:Int),.int .i64 4])):=Lib.hid (HO2.out.kept (row:=none) ⟨hb3.os,hb3.tape,hb3.output,hb3.size,fun k' hk _=>hb3.block k' hk⟩ (by cases hv:v.ownBlock <;> simp))
 have HS3:=Lib.hid (HS2.out.trans (Below.sv hb3 hB2))
 clear hb3
 unfold In.ieV In.Ins.val In.insV
 go_wp2_with (refine wpList_store_sub rfl 53 (.tmp 45) (.tmp 42) rfl g 303 (toI i).L.toArray rfl rfl 81 (k.tc v).L.toArray HK3.out info53s (by have:=(k.tc v).len;simp;omega) (ins_all (toI i)) ?_)
 have hput:putA (k.tc v).L.toArray 303 (toI i).L.toArray.toList=((k.tc v).ins (toI i)).L.toArray:=HI.out v
 rw [hput]
 have HK4:=Lib.hid (blk_row HK3.out ((k.tc v).ins (toI i)).L.toArray)
 have hO4:=only_row w3 g ((k.tc v).ins (toI i)).L.toArray
 have HS4:=Lib.hid (HS3.out.trans (hO4.sv (Nat.le_trans hB2 HB3.out.size)))
 have HO4:Hid ((w3.setRow g ((k.tc v).ins (toI i)).L.toArray).ownsRow B 59 3 v (m+1) (xs++[.int .i64 1,.int .u32 (q.a:Int),.int .i64 4])):=Lib.hid (HO3.out.kept (row:=some g) ⟨hO4.1 0 (Nat.zero_le _) (Nat.zero_le _) |>.os,hO4.1 0 (Nat.zero_le _) (Nat.zero_le _) |>.tape,hO4.1 0 (Nat.zero_le _) (Nat.zero_le _) |>.output,hO4.size,fun k' hk h'=>hO4.2 k' (fun e=>h' (by rw [e])) hk⟩ (Or.inr (fun e=>by have:=(HO3.out.lt g e).1;omega)))
 clear hput hO4
 generalize (w3.setRow g ((k.tc v).ins (toI i)).L.toArray)=W4 at *
 go_wp2_with fail
 go_end0
 exact ⟨rfl,v,HK4.out,HO4.out,HS4.out⟩
theorem fld2 (v0 v2 v3 v4 v5 v6:Value) (n:Int) (W:World):(Instr.field 29 (.agg #[v0,.int .u32 n,v2,v3,v4,v5,v6]) 1).run Tryz.prog W=.ok (.int .u32 n) W:=by kernel_rfl
def numQ (n:Nat):Cq:=⟨false,n,0,0,0,0,0⟩
set_option maxHeartbeats 1000000 in
theorem c96 (g:Nat) (k:WK) (o r n v:Nat) (e:Int) (q:Cq) (w:World) (h:Wk w g k) (ho:k.i.o=o) (hr:k.i.r1=r) (hr16:r<16) (hq:k.A.c r=q)
  (KA:∀ w,Calls Tryz.prog 139 #[.int .u8 (o:Int),.int .u32 (q.a:Int),.int .u32 (n:Int)] w fun en w'=>en=.returned (.tuple #[.int .u32 (v:Int),.int .i64 e])∧w=w') :
  Calls Tryz.prog 96 #[.pointer (some ⟨g,0,none⟩),.int .u32 (n:Int)] w fun en w'=>en=.returned (numQ v).v∧Below w.heap.size w w':=by
 have x:w.cell? ⟨g,303,none⟩=some (.int .u8 (o:Int)):=by rw [←ho];exact h.cellT 0 303 rfl
 have hl:=Blk.lt h
 have K136:Hid (∀ w1,Below w.heap.size w w1→Calls Tryz.prog 136 #[.pointer (some ⟨g,0,none⟩)] w1 fun e w'=>e=.returned q.v∧Below w1.heap.size w1 w'):=Lib.hid (fun w1 hb=>c136 g k w1 (Blk.below h hb hl) r q hr hq hr16)
 have KA:=Lib.hid KA
 have KI:=Lib.hid (Ca.c15n v)
 have hfd:∀ W,(Instr.field 29 (.agg #[.bool q.g,.int .u32 (q.a:Int),.int .u8 (q.p:Int),.int .u8 (q.y:Int),.int .u8 (q.e:Int),.int .u16 (q.b:Int),.int .u16 (q.t:Int)]) 1).run Tryz.prog W=.ok (.int .u32 (q.a:Int)) W:=fun W=>fld2 _ _ _ _ _ _ _ W
 clear h ho hr hq hr16
 go_enter Tryz.func96,Tryz.ntmps96
 go_wp2_with fail
 have hR:Blk (w.alloc (.cells nCap 29)) w.heap.size 29 nCap:=Blk.new w 29 nCap
 have hO:Below w.heap.size w (w.alloc (.cells nCap 29)):=(Below.refl _ _).alloc (Nat.le_refl _) _
 have hx:(w.alloc (.cells nCap 29)).cell? ⟨g,303,none⟩=some (.int .u8 (o:Int)):=(hO.cell (p:=⟨g,303,none⟩) hl).trans x
 have HR:=Lib.hid hR
 have HO:=Lib.hid hO
 have HX:=Lib.hid x
 have hlW:=hR.lt
 have hgW:g<(w.alloc (.cells nCap 29)).heap.size:=Nat.lt_of_lt_of_le hl hO.size
 clear hR hO x
 generalize w.alloc (.cells nCap 29)=W at *
 have KB:Hid (∀ w1,Below W.heap.size W w1→Calls Tryz.prog 136 #[.pointer (some ⟨g,0,none⟩)] w1 fun e w'=>e=.returned (.agg #[.bool q.g,.int .u32 (q.a:Int),.int .u8 (q.p:Int),.int .u8 (q.y:Int),.int .u8 (q.e:Int),.int .u16 (q.b:Int),.int .u16 (q.t:Int)])∧Below W.heap.size W w'):=Lib.hid (fun w1 hb=>(K136.out w1 (HO.out.trans (hb.mono HO.out.size))).mono fun e w' ⟨h1,h2⟩=>⟨h1,hb.trans (h2.mono hb.size)⟩)
 clear K136
 go_region_held3 (fun w'=>w'.cell? ⟨g,303,none⟩=some (.int .u8 (o:Int))∧Below W.heap.size W w')
  (first | assumption | exact ⟨hx,Below.refl _ _⟩ | (refine ⟨?_,?_⟩;exact hx;exact Below.refl _ _) | (refine ⟨?_,?_⟩ <;> first | assumption | exact (Below.refl _ _).drew))
  (first | (go_at_call 136;(with_reducible refine (KB.out _ (by first | assumption | exact Below.refl _ _ | exact (Below.refl _ _).drew)).mono ?_);rintro _ w1 ⟨rfl,hb1⟩;have hx1:=(hb1.cell (p:=⟨g,303,none⟩) hgW).trans hx) | (go_at_call 139;(with_reducible refine (KA.out _).mono ?_);rintro _ _ ⟨rfl,rfl⟩))
 all_goals
  have HB1:=Lib.hid hb1
  have HR1:Hid (Blk w1 w.heap.size 29 nCap):=Lib.hid (HR.out.below hb1 hlW)
  clear hx hb1 hx1
  go_wp2_with fail
  refine (KI.out _).mono ?_
  rintro _ w2 ⟨rfl,hb2⟩
  have hR2:Blk w2 w.heap.size 29 nCap:=HR1.out.below hb2 HR1.out.lt
  have HB2:Hid (Below w.heap.size w w2):=Lib.hid ((HO.out.trans (HB1.out.mono HO.out.size)).trans (hb2.mono (HO.out.trans (HB1.out.mono HO.out.size)).size))
  have y0:=hR2.cell 0
  have y1:=hR2.cell 1
  have y2:=hR2.cell 2
  have y3:=hR2.cell 3
  have y4:=hR2.cell 4
  have y5:=hR2.cell 5
  have y6:=hR2.cell 6
  simp only [nCap,List.getElem?_toArray,List.getElem?_cons_zero,List.getElem?_cons_succ] at y0 y1 y2 y3 y4 y5 y6
  have f0:=hR2.frozen 0
  have f1:=hR2.frozen 1
  have f2:=hR2.frozen 2
  have f3:=hR2.frozen 3
  have f4:=hR2.frozen 4
  have f5:=hR2.frozen 5
  have f6:=hR2.frozen 6
  have zl:=hR2.lt
  clear hb2 hR2
  go_wp2_with fail
  refine bodyPost_ret (v:=.agg #[.bool false,.int .u32 (v:Int),.int .u8 0,.int .u8 0,.int .u8 0,.int .u16 0,.int .u16 0]) (by simp [results,Tryz.results96,go_sem,y0,y1,y2,y3,y4,y5,y6]) rfl ⟨rfl,?_⟩
  exact (((((((HB2.out).setCell (Nat.le_refl _) _).setCell (Nat.le_refl _) _).setCell (Nat.le_refl _) _).setCell (Nat.le_refl _) _).setCell (Nat.le_refl _) _).setCell (Nat.le_refl _) _).setCell (Nat.le_refl _) _
set_option maxHeartbeats 1000000 in
theorem c61_imm (g:Nat) (k:WK) (o r rd v:Nat) (e:Int) (n:Nat) (q:Cq) (w:World) (h:Wk w g k) (ho:k.i.o=o) (ho1:21≤o) (ho2:o≤29) (hr:k.i.r1=r) (hr16:r<16) (hd:k.i.rd=rd) (hd16:rd<16) (hq:k.A.c r=q) (hn:k.i.im%4294967296=(n:Int))
  (KA:∀ w,Calls Tryz.prog 139 #[.int .u8 (o:Int),.int .u32 (q.a:Int),.int .u32 (n:Int)] w fun en w'=>en=.returned (.tuple #[.int .u32 (v:Int),.int .i64 e])∧w=w') :
  Calls Tryz.prog 61 #[.pointer (some ⟨g,0,none⟩)] w fun en w'=>en=.returned (.tuple #[])∧Wk w' g (k.putN rd (numQ v))∧Only g w w':=by
 have x:w.cell? ⟨g,303,none⟩=some (.int .u8 (o:Int)):=by rw [←ho];exact h.cellT 0 303 rfl
 have K97:=Lib.hid (c97 g k w h)
 rw [hn] at K97
 have K96:=Lib.hid (c96 g k o r n v e q w h ho hr hr16 hq KA)
 have HW:=Lib.hid h
 have hl:=Blk.lt h
 have K95:Hid (∀ w1,Wk w1 g k→Calls Tryz.prog 95 #[.pointer (some ⟨g,0,none⟩),(numQ v).v] w1 fun e w'=>e=.returned (.tuple #[])∧Wk w' g (k.putN rd (numQ v))∧Only g w1 w'):=Lib.hid (fun w1 h1=>c95 g k (numQ v) w1 h1 rd hd hd16)
 have b1:((o:Int)==67)=false:=by rw [beq_eq_false_iff_ne];omega
 have b2:decide ((o:Int)≤10)=false:=decide_eq_false (by omega)
 have b3:decide ((o:Int)≤16)=false:=decide_eq_false (by omega)
 have b4:decide ((o:Int)≤20)=false:=decide_eq_false (by omega)
 have b5:decide ((o:Int)≤29)=true:=decide_eq_true (by omega)
 clear h ho hr hd hq hn KA ho1 ho2
 go_enter Tryz.func61,Tryz.ntmps61
 go_wp2_with fail
 refine K97.out.mono ?_
 rintro _ _ ⟨rfl,rfl⟩
 go_wp2_with fail
 refine K96.out.mono ?_
 rintro _ w1 ⟨rfl,hb1⟩
 have HB1:=Lib.hid hb1
 have K95':=Lib.hid (K95.out w1 (Blk.below HW.out hb1 hl))
 clear hb1 x
 go_wp2_with fail
 refine K95'.out.mono ?_
 rintro _ w2 ⟨rfl,hk2,ho2⟩
 have HK2:=Lib.hid hk2
 have HO2:=Lib.hid (((Only.refl g w).below HB1.out).trans ho2)
 clear hk2 ho2
 go_wp2_with fail
 go_end0
 exact ⟨rfl,HK2.out,HO2.out⟩
end Go.Proofs.YtnkoknfihhdelaaGreatDoor
namespace Go.Proofs.YtnkoknfihhdelaaGreatDoor
open Go.ChangeShapes Go.WideShapes Go.ChangeAt Go.RowKit
set_option linter.unusedVariables false
set_option maxRecDepth 100000
set_option maxHeartbeats 1000000
theorem c57_idle (p:Addr) (w:World) :
  CallsD Tryz.prog 57 #[.pointer (some p)] .returning w fun e u' w'=>e=.returned (.tuple #[])∧u'=.returning∧w'=w:=by
 refine callsD_of_wpS Tryz.func57 rfl fun c₀ cs hu=>?_
 apply wpS_seq
 apply wpS_region
 simp [wpOpsS,go_sem,recoverD,hu,Tryz.ntmps57,Exit.thenS]
 refine wpS_of_wp ?_
 go_wp2
 cases c₀
 simp_all [bodyPostS,results,Tryz.results57]
theorem trapOf (z:Int) (W:World):(Instr.typeAssert (.iface 118 (.agg #[.int .u32 z])) 20 118 true).run Tryz.prog W=.ok (.tuple #[.agg #[.int .u32 z],.bool true]) W:=by kernel_rfl
theorem c57_pan (p:Addr) (z y:Int) (older:List PanicEntry) (w:World) (hp:p.block<w.heap.size) (hc:w.cell? p=some (.int .u32 y)) (hz:w.frozen? p=false) :
  CallsD Tryz.prog 57 #[.pointer (some p)] (.panicking ({ v:=.iface 118 (.agg #[.int .u32 z]),recovered:=false } :: older)) w fun e u' w' =>
   e=.returned (.tuple #[])∧u'=.panicking ({ v:=.iface 118 (.agg #[.int .u32 z]),recovered:=true } :: older)∧w'=(w.alloc (.cells #[.int .u32 z] 118)).setCell p (.int .u32 z):=by
 refine callsD_of_wpS Tryz.func57 rfl fun c₀ cs hu=>?_
 apply wpS_seq
 apply wpS_region
 simp [wpOpsS,go_sem,recoverD,hu,Tryz.ntmps57,Exit.thenS]
 refine wpS_of_wp ?_
 have hmd:(({ fn:=c₀.fn,tmps:=c₀.tmps,todo:=c₀.todo,defers:=c₀.defers,mode:=FrameMode.panicking ({ v:=Value.iface 118 (Value.agg #[Value.int IntKind.u32 z]),recovered:=true } :: older),kind:=c₀.kind,roundOf:=c₀.roundOf }:Frame)).mode=FrameMode.panicking ({ v:=Value.iface 118 (Value.agg #[Value.int IntKind.u32 z]),recovered:=true } :: older):=rfl
 generalize hc1:({ fn:=c₀.fn,tmps:=c₀.tmps,todo:=c₀.todo,defers:=c₀.defers,mode:=FrameMode.panicking ({ v:=Value.iface 118 (Value.agg #[Value.int IntKind.u32 z]),recovered:=true } :: older),kind:=c₀.kind,roundOf:=c₀.roundOf }:Frame)=c1 at *
 have HC1:=Lib.hid hc1
 clear hc1
 have hfin:∀ (a':Act),a'.defers=[]→bodyPostS Tryz.prog Tryz.f57 c₀ cs (fun e u' w'=>e=.returned (.tuple #[])∧u'=.panicking ({ v:=.iface 118 (.agg #[.int .u32 z]),recovered:=true } :: older)∧w'=(w.alloc (.cells #[.int .u32 z] 118)).setCell p (.int .u32 z)) Exit.normal a' (c1 :: cs) ((w.alloc (.cells #[.int .u32 z] 118)).setCell p (.int .u32 z)):=fun a' ha=>by
  cases a'
  simp_all [bodyPostS,results,Tryz.results57]
  exact HC1.out.symm
 generalize bodyPostS Tryz.prog Tryz.f57 c₀ cs (fun e u' w'=>e=.returned (.tuple #[])∧u'=.panicking ({ v:=.iface 118 (.agg #[.int .u32 z]),recovered:=true } :: older)∧w'=(w.alloc (.cells #[.int .u32 z] 118)).setCell p (.int .u32 z))=Q at *
 show Code.wp _ _ _ { tmps:=#[.pointer (some p),.iface 118 (.agg #[.int .u32 z]),undef,undef,.iface 118 (.agg #[.int .u32 z]),undef,undef,undef,undef,undef,undef,undef,undef,undef,undef,undef,undef],defers:=[] } w
 have hta:=trapOf z
 have hc2:(w.alloc (.cells #[.int .u32 z] 118)).cell? p=some (.int .u32 y):=((Below.refl w.heap.size w).alloc (Nat.le_refl _) _).cell hp |>.trans hc
 have hz2:(w.alloc (.cells #[.int .u32 z] 118)).frozen? p=false:=((Below.refl w.heap.size w).alloc (Nat.le_refl _) _).frozen hp |>.trans hz
 go_wp2
 rfl
theorem c30_pan (g:Nat) (z:Int) (w:World) (hg:g<w.heap.size)
  (K58:∀ w1,Below w.heap.size w w1→Calls Tryz.prog 58 #[.pointer (some ⟨g,0,none⟩)] w1 fun e w'=>e=.panicked [{ v:=.iface 118 (.agg #[.int .u32 z]),recovered:=false }]∧Below w1.heap.size w1 w') :
  Calls Tryz.prog 30 #[.pointer (some ⟨g,0,none⟩)] w fun e w'=>e=.returned (.int .u32 z)∧Below w.heap.size w w':=by
 have hmf:∀ (fn:Fn) (first cap:Array Value) (w:World),(Instr.makeFunc fn first cap).run Tryz.prog w=.ok (.func fn first cap) w:=fun _ _ _ _=>rfl
 have hO:Below w.heap.size w (w.alloc (.cells #[.int .u32 0] 25)):=(Below.refl _ _).alloc (Nat.le_refl _) _
 have K:=Lib.hid (K58 _ hO)
 have hR:=Blk.new w 25 #[.int .u32 0]
 have HO:=Lib.hid hO
 have HR:=Lib.hid hR
 clear K58 hO hR
 go_enter_defers Tryz.func30,Tryz.ntmps30
 go_wp2_with fail
 refine K.out.mono ?_
 rintro _ w1 ⟨rfl,hb⟩
 have HB:Hid (Below w.heap.size w w1):=Lib.hid (HO.out.trans (hb.mono HO.out.size))
 have HR1:Hid (Blk w1 w.heap.size 25 #[.int .u32 0]):=Lib.hid (HR.out.below hb HR.out.lt)
 clear hb
 go_wp2_with fail
 have y:=HR1.out.cell 0
 simp only [List.getElem?_toArray,List.getElem?_cons_zero] at y
 have fz:=HR1.out.frozen 0
 have hl1:=HR1.out.lt
 refine leaves_cons (f:=57) (args:=#[.pointer (some ⟨w.heap.size,0,none⟩)]) (by simp) (by simp [go_sem]) ?_
 refine (c57_pan ⟨w.heap.size,0,none⟩ z 0 [] w1 hl1 y fz).mono ?_
 rintro e u' w'' ⟨rfl,rfl,rfl⟩
 have hS:Blk ((w1.alloc (.cells #[.int .u32 z] 118)).setCell ⟨w.heap.size,0,none⟩ (.int .u32 z)) w.heap.size 25 #[.int .u32 z]:=by
  have:=(HR1.out.alloc (.cells #[.int .u32 z] 118)).set_ 0 (.int .u32 z)
  simpa using this
 have y2:=hS.cell 0
 simp only [List.getElem?_toArray,List.getElem?_cons_zero] at y2
 have hb2:Below w.heap.size w ((w1.alloc (.cells #[.int .u32 z] 118)).setCell ⟨w.heap.size,0,none⟩ (.int .u32 z)):=(HB.out.alloc HB.out.size _).setCell (Nat.le_refl _) _
 generalize (w1.alloc (.cells #[.int .u32 z] 118)).setCell ⟨w.heap.size,0,none⟩ (.int .u32 z)=W at *
 clear hS
 show Leaves _ _ _ _ _ _ _
 simp [Leaves,settle,results,Tryz.results30,go_sem,y2]
 exact hb2
theorem c30_imm (g:Nat) (k:WK) (q x:Cq) (b:Nat) (M:Nat→Nat) (T:Nat→Bool) (i:In.Ins) (v n:Nat) (e:Int) (w:World) (h:Wk w g k) (hq:k.A.c 16=q) (hf:q.fit) (hmay:Ca.may q.g q.a q.p q.y q.e q.b q.t 8 q.a 4=true) (hd:devB q.a=false)
  (hmp:k.mp=.pointer (some ⟨b,0,none⟩)) (hm:Mem w b M T) (hw:wordB q.a 4=true) (hbg:b≠g) (htc:k.d.tc=.slice none 0 0) (hgl:In.Glob w) (hg3:3≤g)
  (hn:numL M q.a 4<4294967296) (hget:In.get (numL M q.a 4)=(i,0)) (ho1:21≤i.o) (ho2:i.o≤29) (hr16:i.a<16) (hd16:i.d<16) (hx:k.A.c i.a=x) (hi:i.m%4294967296=(n:Int)) (ha4:q.a+4<4294967296)
  (KA:∀ w,Calls Tryz.prog 139 #[.int .u8 (i.o:Int),.int .u32 (x.a:Int),.int .u32 (n:Int)] w fun en w'=>en=.returned (.tuple #[.int .u32 (v:Int),.int .i64 e])∧w=w') :
  Calls Tryz.prog 30 #[.pointer (some ⟨g,0,none⟩)] w fun e w'=>e=.returned (.int .u32 0)∧∃ tv,(∃ A c,tv=.slice A 1 c)∧Wk w' g ((((k.tc tv).ins (toI i)).putN 16 (q.sa (q.a+4))).putN i.d (numQ v))∧Sv g w.heap.size w w':=by
 have hmf:∀ (fn:Fn) (first cap:Array Value) (w:World),(Instr.makeFunc fn first cap).run Tryz.prog w=.ok (.func fn first cap) w:=fun _ _ _ _=>rfl
 have hO:Below w.heap.size w (w.alloc (.cells #[.int .u32 0] 25)):=(Below.refl _ _).alloc (Nat.le_refl _) _
 have hl:=Blk.lt h
 have hR:=Blk.new w 25 #[.int .u32 0]
 have hsz:(w.alloc (.cells #[.int .u32 0] 25)).heap.size=w.heap.size+1:=by simp
 have K58:=Lib.hid (c58_ok g (w.heap.size+1) k q b M T (.slice none 0 0) 0 [] i (w.alloc (.cells #[.int .u32 0] 25)) (Blk.alloc h _) hq hf hmay hd hmp (hm.below hO hm.lt) hw (by have:=hm.lt;omega) hbg htc (World.ownsRow_nil _ _ _ _) (by omega) (by omega) (by decide) (hgl.below hO (by omega)) hg3 hn hget)
 have K60:Hid (∀ w1 tv,Wk w1 g ((k.tc tv).ins (toI i))→Calls Tryz.prog 60 #[.pointer (some ⟨g,0,none⟩)] w1 fun e w'=>e=.returned (.int .u32 (q.a:Int))∧w1=w'):=Lib.hid (fun w1 tv h1=>by
  have:=c60 g _ w1 h1
  rw [show ((k.tc tv).ins (toI i)).A.c 16=q from hq] at this
  exact this)
 have K59:Hid (∀ w1 tv,Wk w1 g ((k.tc tv).ins (toI i))→Calls Tryz.prog 59 #[.pointer (some ⟨g,0,none⟩),.int .u32 ((q.a:Int)+4)] w1 fun e w'=>e=.returned (.tuple #[])∧Wk w' g (((k.tc tv).ins (toI i)).putN 16 (q.sa (q.a+4)))∧Only g w1 w'):=Lib.hid (fun w1 tv h1=>by
  have:=c59 g _ q (q.a+4) w1 h1 hq hf ha4
  have e1:((q.a+4:Nat):Int)=(q.a:Int)+4:=by omega
  rw [e1] at this
  exact this)
 have K61:Hid (∀ w1 tv,Wk w1 g (((k.tc tv).ins (toI i)).putN 16 (q.sa (q.a+4)))→Calls Tryz.prog 61 #[.pointer (some ⟨g,0,none⟩)] w1 fun e w'=>e=.returned (.tuple #[])∧Wk w' g ((((k.tc tv).ins (toI i)).putN 16 (q.sa (q.a+4))).putN i.d (numQ v))∧Only g w1 w'):=Lib.hid (fun w1 tv h1=>c61_imm g _ i.o i.a i.d v e n x w1 h1 rfl ho1 ho2 rfl hr16 rfl hd16 hx hi KA)
 have hgne:w.heap.size≠g:=by omega
 have HO:=Lib.hid hO
 have HR:=Lib.hid hR
 have hqa:q.a<4294967292:=by omega
 clear hO hR h hq hf hmay hd hmp hm hw htc hgl hget hx hi KA hn hsz
 go_enter_defers Tryz.func30,Tryz.ntmps30
 go_wp2_with fail
 refine K58.out.mono ?_
 rintro _ w1 ⟨rfl,tv,hk1,hown1,hs1⟩
 have HK1:=Lib.hid hk1
 have HTV:Hid (∃ A c,tv=.slice A 1 c):=Lib.hid (by
  rcases hown1.2 with ⟨hv,h0⟩ | ⟨g,cap,cur,hv,_⟩
  ·omega
  ·exact ⟨_,cap,hv⟩)
 clear hown1
 have HS1:=Lib.hid ((Below.sv HO.out (Nat.le_refl _) (g:=g)).trans ⟨hs1.os,hs1.tape,hs1.output,hs1.size,fun k' hk' hg'=>hs1.block k' (by omega) hg'⟩)
 have HR1:Hid (Blk w1 w.heap.size 25 #[.int .u32 0]):=Lib.hid (hs1.blk (by omega) hgne HR.out)
 clear hk1 hs1 K58
 go_wp2_with fail
 refine (K60.out w1 tv HK1.out).mono ?_
 rintro _ _ ⟨rfl,rfl⟩
 go_wp2_with fail
 refine (K59.out w1 tv HK1.out).mono ?_
 rintro _ w2 ⟨rfl,hk2,ho2'⟩
 have HK2:=Lib.hid hk2
 have HS2:=Lib.hid (HS1.out.trans (ho2'.sv (Nat.le_of_lt HR1.out.lt)))
 have HR2:Hid (Blk w2 w.heap.size 25 #[.int .u32 0]):=Lib.hid (ho2'.blk hgne HR1.out)
 clear hk2 ho2' HK1 HS1 HR1
 go_wp2_with fail
 refine (K61.out w2 tv HK2.out).mono ?_
 rintro _ w3 ⟨rfl,hk3,ho3⟩
 have HK3:=Lib.hid hk3
 have HS3:=Lib.hid (HS2.out.trans (ho3.sv (Nat.le_of_lt HR2.out.lt)))
 have HR3:Hid (Blk w3 w.heap.size 25 #[.int .u32 0]):=Lib.hid (ho3.blk hgne HR2.out)
 clear hk3 ho3 HK2 HS2 HR2
 have y:=HR3.out.cell 0
 simp only [List.getElem?_toArray,List.getElem?_cons_zero] at y
 have fz:=HR3.out.frozen 0
 have hl3:=HR3.out.lt
 go_wp2_with fail
 have hS:Blk (w3.setCell ⟨w.heap.size,0,none⟩ (.int .u32 0)) w.heap.size 25 #[.int .u32 0]:=by
  have:=HR3.out.set_ 0 (.int .u32 0)
  simpa using this
 have y2:=hS.cell 0
 simp only [List.getElem?_toArray,List.getElem?_cons_zero] at y2
 have HK4:Hid (Wk (w3.setCell ⟨w.heap.size,0,none⟩ (.int .u32 0)) g ((((k.tc tv).ins (toI i)).putN 16 (q.sa (q.a+4))).putN i.d (numQ v))):=Lib.hid (Blk.far HK3.out (fun e=>hgne e.symm) _)
 have HS4:Hid (Sv g w.heap.size w (w3.setCell ⟨w.heap.size,0,none⟩ (.int .u32 0))):=Lib.hid (HS3.out.trans ⟨rfl,rfl,rfl,by simp,fun k' hk' _=>Below.heap_setCell _ _ _ _ (by show k'≠w.heap.size;omega)⟩)
 clear hS HK3 HS3 HR3 y fz
 generalize w3.setCell ⟨w.heap.size,0,none⟩ (.int .u32 0)=W at *
 refine leaves_cons (f:=57) (args:=#[.pointer (some ⟨w.heap.size,0,none⟩)]) (by simp) (by simp [go_sem]) ?_
 refine (c57_idle ⟨w.heap.size,0,none⟩ W).mono ?_
 rintro e u' w'' ⟨rfl,rfl,rfl⟩
 obtain ⟨A,c,rfl⟩:=HTV.out
 show Leaves _ _ _ _ _ _ _
 simp [Leaves,settle,results,Tryz.results30,go_sem,y2]
 first | exact ⟨_,⟨A,c,rfl⟩,HK4.out,HS4.out⟩ | exact ⟨A,c,HK4.out,HS4.out⟩ | exact ⟨A,⟨c,HK4.out⟩,HS4.out⟩
end Go.Proofs.YtnkoknfihhdelaaGreatDoor
