/-
 An entry as two cells, the model's '==' at two entries; what the small functions of package entry answer: contracts. No condition but the bounds that each theorem names.
 Whether an entry may be, whether an ask may, who is known: what package entry and the document's own answer: contracts. No condition but the bounds that each theorem names.
 Whether an ask may be, who is known, the free entry; whether the document's own entry and ask may be: contracts. No condition but the bounds that each theorem names.
 Whether an entry and an ask may be, by the document's own text: contracts. No condition but the bounds that each theorem names.
 What an ask makes of an entry, by package entry and by the document's own text; what a block that goes back does: contracts. No condition but the bounds that each theorem names.
 What a block that goes back makes of an entry, by package entry and by the document's own text: contracts. No condition but the bounds that each theorem names.
 The law's own 'works'; what a block that goes back makes of an entry by the document's own text; the law EntryBacks returns true: contracts. No condition but the bounds that each theorem names.
-/
import Derived.Test.YtenhdijbcdkfbaaGreatDoorTl
import Derived.Test.YtenhdijbcdkfbaaGreatDoorMa
import Derived.Laws.StructEq
import Derived.Deep.WholeRow
import Derived.Deep.RegionHeld3
import Derived.Below
namespace Go.Proofs.YtenhdijbcdkfbaaGreatDoor.en
set_option linter.unusedVariables false
set_option linter.unusedSimpArgs false
set_option maxRecDepth 1000000
set_option maxHeartbeats 16000000
open Go Go.ChangeShapes Go.WideShapes Go.ChangeAt Go.RowKit
open Go.Proofs.YtenhdijbcdkfbaaGreatDoor.mm (wi wo ha pop wi_lt wo_lt with_any)
theorem grown_alloc {w w':World} {own:Option Nat} (h:w.grownBy w' own) (o:Obj):w.grownBy (w'.alloc o) own:=
 ⟨h.os,h.tape,h.output,by have:=h.size;simp;omega,fun k hk hn=>(Below.heap_alloc _ _ _ (Nat.lt_of_lt_of_le hk h.size)).trans (h.block k hk hn)⟩
theorem grown_refl (w:World) (own:Option Nat):w.grownBy w own:=⟨rfl,rfl,rfl,Nat.le_refl _,fun _ _ _=>rfl⟩
theorem grown_trans {a b c:World} {own:Option Nat} (h:a.grownBy b own) (k:b.grownBy c own):a.grownBy c own:=
 ⟨k.os.trans h.os,k.tape.trans h.tape,k.output.trans h.output,Nat.le_trans h.size k.size,fun i hi hn=>(k.block i (Nat.lt_of_lt_of_le hi h.size) hn).trans (h.block i hi hn)⟩
theorem grown_drew {w w':World} {own:Option Nat} (h:w.grownBy w' own):w.grownBy w'.drew own:=⟨h.os,h.tape,h.output,h.size,h.block⟩
theorem grown_drewN {w w':World} {own:Option Nat} (h:w.grownBy w' own) (n:Nat):w.grownBy (w'.drewN n) own:=⟨h.os,h.tape,h.output,h.size,h.block⟩
theorem below_of {w w':World} (h:w.grownBy w' none):Below w.heap.size w w':=⟨h.os,h.tape,h.output,h.size,fun k hk=>h.block k hk (by simp)⟩
structure En where
 o:Int
 s:Nat
deriving DecidableEq
def ea (e:En):Array Value:=#[.int .i64 e.o,.int .u32 (e.s:Int)]
def En.may (e:En):Bool:=decide (-1 ≤ e.o∧e.o ≤ 15∧e.s < 65536∧(e.o ≠ -1→e.s=0))
def ask (e:En) (k x:Int):Bool:=e.may && decide (0 ≤ x∧x ≤ 15) && decide (k=1 ∨ k=2)
def free:En:=⟨-1,0⟩
theorem stoodE:Tryz.prog.stoodInHeld 58=false:=by kernel_rfl
theorem fieldsE:Tryz.prog.underlying 58=some (.struct (Tryz.prog.fieldsOf 58)):=by kernel_rfl
theorem eqIk (k:Nat) (hk:1 ≤ k) (w:World) (t:TypeId) (q:IntKind) (a b:Int) (h:Tryz.prog.underlying t=some (.int q)):(Op.equalIn k t (.int q a) (.int q b)).run Tryz.prog w = .ok (a == b) w:=by
 obtain ⟨d,rfl⟩:∃ d,k=d + 1:=⟨k - 1,by omega⟩
 exact run_equalIn_int w d t q q a b h
theorem eqEk (k:Nat) (hk:3 ≤ k) (w:World) (a b c d:Int):(Op.equalIn k 58 (.agg #[.int .i64 a,.int .u32 b]) (.agg #[.int .i64 c,.int .u32 d])).run Tryz.prog w = .ok (decide (a=c∧b=d)) w:=by
 obtain ⟨n,rfl⟩:∃ n,k=n + 1:=⟨k - 1,by omega⟩
 rw [run_equalIn_agg w n 58 _ _ fieldsE stoodE]
 simp only [Program.fieldsOf,Tryz.underlying58]
 have p0:∀ x y:Int,(part 3 #[.int .i64 x,.int .u32 y] 0).run Tryz.prog w = .ok (.int .i64 x) w:=fun x y=>by simp [part,isAgg,run_underlying Tryz.underlying3]
 have p1:∀ x y:Int,(part 56 #[.int .i64 x,.int .u32 y] 1).run Tryz.prog w = .ok (.int .u32 y) w:=fun x y=>by simp [part,isAgg,run_underlying Tryz.underlying56]
 have e0:=eqIk n (by omega) w 3 .i64 a c Tryz.underlying3
 have e1:=eqIk n (by omega) w 56 .u32 b d Tryz.underlying56
 simp [Op.eqFields,Sem.run_bind,p0,p1,e0,e1]
 by_cases h1:a=c
 ·by_cases h2:b=d <;> simp [h1,h2]
 ·simp [h1]
theorem eqE (w:World) (a b c d:Int):(binOp .eql 58 (.agg #[.int .i64 a,.int .u32 b]) (.agg #[.int .i64 c,.int .u32 d])).run Tryz.prog w = .ok (.bool (decide (a=c∧b=d))) w:=by
 rw [run_eql_struct,eqEk 10000 (by omega) w a b c d]
 rfl
theorem neE (w:World) (a b c d:Int):(binOp .neq 58 (.agg #[.int .i64 a,.int .u32 b]) (.agg #[.int .i64 c,.int .u32 d])).run Tryz.prog w = .ok (.bool (!decide (a=c∧b=d))) w:=by
 rw [run_neq_struct,eqEk 10000 (by omega) w a b c d]
 rfl
theorem infoE (a b:Value):(Tryz.prog.info? 58).map (·.size)=some (#[a,b]:Array Value).size:=by
 have:(Tryz.prog.info? 58).map (·.size)=some 2:=by kernel_rfl
 exact this
theorem ret1 {fn:Func} {p:Tmp} (h:fn.results=#[.cell p 58]) {tmps:Array Value} {w:World} {g:Nat} {t:TypeId} {a b:Value} {fr:Nat × Nat} {Q:Ending→World→Prop}
  (hp:tmps.getD p undef = .pointer (some ⟨g,0,none⟩)) (hg:w.heap[g]?=some (.cells #[a,b] t fr)) (hQ:Q (.returned (.agg #[a,b])) w):bodyPost Tryz.prog fn Q .ret { tmps:=tmps,defers:=[] } w:=
 bodyPost_ret (v:= .agg #[a,b]) (results_cell_row h _ _ g t #[a,b] fr _ hp hg Tryz.underlying58 rfl (infoE a b)) rfl hQ
theorem ret3 {fn:Func} {p u v:Tmp} (h:fn.results=#[.cell p 58,.tmp u,.tmp v]) {tmps:Array Value} {w:World} {g:Nat} {t:TypeId} {a b x y:Value} {fr:Nat × Nat} {Q:Ending→World→Prop}
  (hp:tmps.getD p undef = .pointer (some ⟨g,0,none⟩)) (hu:tmps.getD u undef=x) (hv:tmps.getD v undef=y) (hg:w.heap[g]?=some (.cells #[a,b] t fr)) (hQ:Q (.returned (.tuple #[.agg #[a,b],x,y])) w):bodyPost Tryz.prog fn Q .ret { tmps:=tmps,defers:=[] } w:=by
 refine bodyPost_ret (v:= .tuple #[.agg #[a,b],x,y]) ?_ rfl hQ
 have hl:=run_loadVar_row (P:=Tryz.prog) w g t 58 #[a,b] fr _ hg Tryz.underlying58 rfl (infoE a b)
 have hp':tmps[p]?.getD undef = .pointer (some ⟨g,0,none⟩):=by simpa using hp
 have hu':tmps[u]?.getD undef=x:=by simpa using hu
 have hv':tmps[v]?.getD undef=y:=by simpa using hv
 simp [results,h,hp',hu',hv',asAddr,hl]
theorem grown_setRow {w w1:World} (h:w.grownBy w1 none) (g:Nat) (hg:w.heap.size ≤ g) (c:Array Value):w.grownBy (w1.setRow g c) none:=
 ⟨h.os,h.tape,h.output,by have:=h.size;simp;omega,fun k hk hn=>(setRow_other _ _ _ _ (by omega)).trans (h.block k hk hn)⟩
theorem row_grown {w w':World} {g:Nat} {o:Obj} (h:w.heap[g]?=some o) (hg:w.grownBy w' none):w'.heap[g]?=some o:=
 (hg.block g (Array.getElem?_eq_some_iff.1 h).1 (by simp)).trans h
section
variable {w:World} {ops:Array Oper} {rest:List Oper} {a:Act} {Q:Exit→Act→World→Prop} {dst:Option Tmp} {ty:TypeId} {pos:String} {after:Array Edge}
theorem load_en (p q:Value) (t:TypeId) (fr:Nat × Nat) (x:Tmp) (g:Nat) (hx:a.eval (.tmp x) = .pointer (some ⟨g,0,none⟩)) (hg:w.heap[g]?=some (.cells #[p,q] t fr))
  (h:wpList Tryz.prog ops Q rest (a.put dst (.agg #[p,q])) w):wpList Tryz.prog ops Q (⟨dst,.load 58 (.tmp x),ty,pos,after,none⟩ :: rest) a w:=
 wpList_load_row rfl 58 (.tmp x) rfl g hx t _ fr _ hg Tryz.underlying58 rfl (infoE p q) h
theorem store_en (p q:Int) (c:Array Value) (t:TypeId) (x y:Tmp) (g:Nat) (hx:a.eval (.tmp x) = .pointer (some ⟨g,0,none⟩)) (hy:a.eval (.tmp y) = .agg #[.int .i64 p,.int .u32 q]) (hg:w.heap[g]?=some (.cells c t (0,0))) (hc:c.size=2)
  (h:wpList Tryz.prog ops Q rest (a.put dst undef) (w.setRow g #[.int .i64 p,.int .u32 q])):wpList Tryz.prog ops Q (⟨dst,.store 58 (.tmp x) (.tmp y),ty,pos,after,none⟩ :: rest) a w:=
 wpList_store_row rfl 58 (.tmp x) (.tmp y) rfl g _ hx hy t _ hg (infoE _ _) (by rw [hc];rfl) (by simp [Value.oneCell']) h
theorem store_enN (p q:Int) (c:Array Value) (t:TypeId) (x y:Tmp) (hx:a.eval (.tmp x) = .pointer (some ⟨w.heap.size,0,none⟩)) (hy:a.eval (.tmp y) = .agg #[.int .i64 p,.int .u32 q]) (hc:c.size=2)
  (h:wpList Tryz.prog ops Q rest (a.put dst undef) (w.alloc (.cells #[.int .i64 p,.int .u32 q] t))):wpList Tryz.prog ops Q (⟨dst,.store 58 (.tmp x) (.tmp y),ty,pos,after,none⟩ :: rest) a (w.alloc (.cells c t)):=by
 refine store_en p q c t x y w.heap.size hx hy (heap_alloc_new _ _) hc ?_
 rw [World.setRow_alloc_new];exact h
end
theorem owned_any (x:Int) (w:World):Calls Tryz.prog 108 #[.int .i64 x] w fun e w'=>e = .returned (.agg #[.int .i64 x,.int .u32 0])∧w.grownBy w' none:=by
 go_enter Tryz.func108,Tryz.ntmps108
 go_wp2
 refine ret1 rfl (by rfl) (heap_alloc_new _ _) ?_
 exact ⟨rfl,grown_alloc (grown_refl _ _) _⟩
theorem shared_any (m:Int) (w:World):Calls Tryz.prog 60 #[.int .u32 m] w fun e w'=>e = .returned (.agg #[.int .i64 (-1),.int .u32 m])∧w.grownBy w' none:=by
 go_enter Tryz.func60,Tryz.ntmps60
 go_wp2
 refine ret1 rfl (by rfl) (heap_alloc_new _ _) ?_
 exact ⟨rfl,grown_alloc (grown_refl _ _) _⟩
theorem core_any (x:Int) (w:World):Calls Tryz.prog 111 #[.int .i64 x] w fun e w'=>e = .returned (.bool (decide (0 ≤ x∧x ≤ 15)))∧w=w':=by
 by_cases h0:0 ≤ x
 ·by_cases h1:x < 16
  ·rw [decide_eq_true (p:=0 ≤ x∧x ≤ 15) (by omega)]
   go_enter Tryz.func111,Tryz.ntmps111
   go_wp2
   go_ret
   exact ⟨rfl,rfl⟩
  ·rw [decide_eq_false (p:=0 ≤ x∧x ≤ 15) (by omega)]
   go_enter Tryz.func111,Tryz.ntmps111
   go_wp2
   go_ret
   exact ⟨rfl,rfl⟩
 ·rw [decide_eq_false (p:=0 ≤ x∧x ≤ 15) (by omega)]
  go_enter Tryz.func111,Tryz.ntmps111
  go_wp2
  go_ret
  exact ⟨rfl,rfl⟩
end Go.Proofs.YtenhdijbcdkfbaaGreatDoor.en
namespace Go.Proofs.YtenhdijbcdkfbaaGreatDoor.en
set_option linter.unusedVariables false
set_option linter.unusedSimpArgs false
set_option maxRecDepth 1000000
set_option maxHeartbeats 16000000
open Go Go.ChangeShapes Go.WideShapes Go.ChangeAt Go.RowKit
open Go.Proofs.YtenhdijbcdkfbaaGreatDoor.mm (wi wo ha pop wi_lt wo_lt with_any rhas_any ret_i64 ret_bool ret_u32)
theorem next2 {w w':World} {b:Nat} {x y:Value} (h:w.cell? ⟨b,0,none⟩=some x∧w.cell? ⟨b,1,none⟩=some y) (hg:w.grownBy w' none):w'.cell? ⟨b,0,none⟩=some x∧w'.cell? ⟨b,1,none⟩=some y:=
 ⟨hg.cell h.1 (by simp),hg.cell h.2 (by simp)⟩
theorem new2 (w:World) (x y:Value) (t:TypeId):(w.alloc (.cells #[x,y] t)).cell? ⟨w.heap.size,0,none⟩=some x∧(w.alloc (.cells #[x,y] t)).cell? ⟨w.heap.size,1,none⟩=some y:=
 ⟨cell_of_row _ _ 0 _ _ _ (heap_alloc_new _ _),cell_of_row _ _ 1 _ _ _ (heap_alloc_new _ _)⟩
theorem low16 (s:Nat) (hs:s < 4294967296):bits .and .u32 (s:Int) 65535=((s % 65536:Nat):Int):=by
 have:=u32_and_nat s 65535 hs (by omega)
 rw [show (65535:Int)=((65535:Nat):Int) from rfl,this,show (65535:Nat)=2 ^ 16 - 1 by decide,Nat.and_two_pow_sub_one_eq_mod]
theorem may_yes {o:Int} {s:Nat} (h:-1 ≤ o∧o ≤ 15∧s < 65536∧(o ≠ -1→s=0)):En.may ⟨o,s⟩=true:=decide_eq_true h
theorem may_no {o:Int} {s:Nat} (h:¬ (-1 ≤ o∧o ≤ 15∧s < 65536∧(o ≠ -1→s=0))):En.may ⟨o,s⟩=false:=decide_eq_false h
def err (b:Bool):Int:=if b then 0 else 2
theorem may_a (s:Nat) (w:World) (hs:s < 65536):Calls Tryz.prog 110 #[.agg #[.int .i64 (-1),.int .u32 (s:Int)]] w fun e w'=>e = .returned (.int .i64 0)∧w.grownBy w' none:=by
 have HG0:Hid (w.grownBy (w.alloc (.cells #[.int .i64 (-1),.int .u32 (s:Int)] 58)) none):=qh (grown_alloc (grown_refl _ _) _)
 have HC:=qh (new2 w (.int .i64 (-1)) (.int .u32 (s:Int)) 58)
 have hb:=low16 s (by omega)
 rw [Nat.mod_eq_of_lt hs] at hb
 have HS:Hid (∀ w,_):=qh fun w=>shared_any (s:Int) w
 have he:=eqE
 go_enter Tryz.func110,Tryz.ntmps110
 go_wp2_with fail
 refine wp_region_held_drew (S:=fun w'=>(w'.cell? ⟨w.heap.size,0,none⟩=some (.int .i64 (-1))∧w'.cell? ⟨w.heap.size,1,none⟩=some (.int .u32 (s:Int)))∧w.grownBy w' none) (by kernel_rfl) ⟨next2 HC.out (grown_drew (grown_refl _ _)),grown_drew HG0.out⟩ (fun hHeld=>?_)
 generalize (w.alloc _).drew=wd at hHeld ⊢
 refine tl 0 ?_ rfl ?_ ?_ (tl 1 ?_ rfl ?_ ?_ (tl 2 ?_ rfl ?_ ?_ (tl 3 ?_ rfl ?_ ?_ ?_)))
 iterate 4 (rotate_left;(next=>(try simp only [lay]);((intro w0 hSw;obtain ⟨⟨hs1,hs2⟩,hs3⟩:=hSw;go_simp);try (with_reducible rfl)));next=>rfl)
 try simp only [lay]
 refine rd 4 rfl fun K hK=>?_
 go_simp
 (with_reducible refine (HS.out _).mono ?_);rintro e w5 ⟨rfl,hg5⟩
 go_wp2_with fail
 refine hK.out _ _ ⟨next2 hHeld.1 hg5,grown_trans hHeld.2 hg5⟩ (fun hHeld=>?_)
 clear hK K
 try simp only [lay]
 refine tl 5 ?_ rfl ?_ ?_ (tl 6 ?_ rfl ?_ ?_ ?_)
 iterate 2 (rotate_left;(next=>(try simp only [lay]);((intro w0 hSw;obtain ⟨⟨hs1,hs2⟩,hs3⟩:=hSw;go_simp);try (with_reducible rfl)));next=>rfl)
 try simp only [lay]
 refine tu 7 rfl ?_
 try simp only [lay]
 refine tu 8 rfl ?_
 try simp only [lay]
 refine tu 9 rfl ?_
 try simp only [lay]
 refine tu 10 rfl ?_
 try simp only [lay]
 refine tu 11 rfl ?_
 try simp only [lay]
 refine tu 12 rfl ?_
 try simp only [lay]
 refine tu 13 rfl ?_
 try simp only [lay]
 refine tu 14 rfl ?_
 try simp only [lay]
 refine tu 15 rfl ?_
 try simp only [lay]
 refine tu 16 rfl ?_
 try simp only [lay]
 refine tl 17 ?_ rfl ?_ ?_ ?_
 (rotate_left;(next=>(try simp only [lay]);((intro w0 hSw;go_simp);try (with_reducible rfl)));next=>rfl)
 try simp only [lay]
 refine wpAnyH_done (by kernel_rfl) ?_ _
 go_wp2_with fail
 go_ret
 exact ⟨rfl,hHeld.2⟩
theorem may_b (o:Int) (s:Nat) (w:World) (hs:s < 4294967296) (h1:¬ (o=-1∧s < 65536)) (h2:¬ (0 ≤ o∧o ≤ 15)):Calls Tryz.prog 110 #[.agg #[.int .i64 o,.int .u32 (s:Int)]] w fun e w'=>e = .returned (.int .i64 2)∧w.grownBy w' none:=by
 have HG0:Hid (w.grownBy (w.alloc (.cells #[.int .i64 o,.int .u32 (s:Int)] 58)) none):=qh (grown_alloc (grown_refl _ _) _)
 have HC:=qh (new2 w (.int .i64 o) (.int .u32 (s:Int)) 58)
 have hb:=low16 s hs
 obtain ⟨m,hm⟩:∃ m:Int,m=((s % 65536:Nat):Int):=⟨_,rfl⟩
 have hd:decide (o=-1∧(s:Int)=m)=false:=decide_eq_false (by omega)
 rw [← hm] at hb
 have HS:Hid (∀ w,_):=qh fun w=>shared_any m w
 have HI:Hid (∀ w,_):=qh fun w=>core_any o w
 rw [decide_eq_false h2] at HI
 have he:∀ w,(binOp .eql 58 (.agg #[.int .i64 o,.int .u32 (s:Int)]) (.agg #[.int .i64 (-1),.int .u32 m])).run Tryz.prog w = .ok (.bool false) w:=fun w=>by rw [eqE,hd]
 clear h1 h2 hm hd hs
 go_enter Tryz.func110,Tryz.ntmps110
 go_wp2_with fail
 refine wp_region_held_drew (S:=fun w'=>(w'.cell? ⟨w.heap.size,0,none⟩=some (.int .i64 o)∧w'.cell? ⟨w.heap.size,1,none⟩=some (.int .u32 (s:Int)))∧w.grownBy w' none) (by kernel_rfl) ⟨next2 HC.out (grown_drew (grown_refl _ _)),grown_drew HG0.out⟩ (fun hHeld=>?_)
 generalize (w.alloc _).drew=wd at hHeld ⊢
 refine tl 0 ?_ rfl ?_ ?_ (tl 1 ?_ rfl ?_ ?_ (tl 2 ?_ rfl ?_ ?_ (tl 3 ?_ rfl ?_ ?_ ?_)))
 iterate 4 (rotate_left;(next=>(try simp only [lay]);((intro w0 hSw;obtain ⟨⟨hs1,hs2⟩,hs3⟩:=hSw;go_simp);try (with_reducible rfl)));next=>rfl)
 try simp only [lay]
 refine rd 4 rfl fun K hK=>?_
 go_simp
 (with_reducible refine (HS.out _).mono ?_);rintro e w5 ⟨rfl,hg5⟩
 go_wp2_with fail
 refine hK.out _ _ ⟨next2 hHeld.1 hg5,grown_trans hHeld.2 hg5⟩ (fun hHeld=>?_)
 clear hK K
 try simp only [lay]
 refine tl 5 ?_ rfl ?_ ?_ (tl 6 ?_ rfl ?_ ?_ (tl 7 ?_ rfl ?_ ?_ (tl 8 ?_ rfl ?_ ?_ ?_)))
 iterate 4 (rotate_left;(next=>(try simp only [lay]);((intro w0 hSw;obtain ⟨⟨hs1,hs2⟩,hs3⟩:=hSw;go_simp);try (with_reducible rfl)));next=>rfl)
 try simp only [lay]
 refine rd 9 rfl fun K hK=>?_
 go_simp
 (with_reducible refine (HI.out _).mono ?_);rintro e w6 ⟨rfl,rfl⟩
 go_wp2_with fail
 refine hK.out _ _ hHeld (fun hHeld=>?_)
 clear hK K
 try simp only [lay]
 refine tl 10 ?_ rfl ?_ ?_ ?_
 (rotate_left;(next=>(try simp only [lay]);((intro w0 hSw;go_simp);try (with_reducible rfl)));next=>rfl)
 try simp only [lay]
 refine tu 11 rfl ?_
 try simp only [lay]
 refine tu 12 rfl ?_
 try simp only [lay]
 refine tu 13 rfl ?_
 try simp only [lay]
 refine tu 14 rfl ?_
 try simp only [lay]
 refine tu 15 rfl ?_
 try simp only [lay]
 refine tl 16 ?_ rfl ?_ ?_ (tl 17 ?_ rfl ?_ ?_ ?_)
 iterate 2 (rotate_left;(next=>(try simp only [lay]);((intro w0 hSw;go_simp);try (with_reducible rfl)));next=>rfl)
 try simp only [lay]
 refine wpAnyH_done (by kernel_rfl) ?_ _
 go_wp2_with fail
 go_ret
 exact ⟨rfl,hHeld.2⟩
theorem may_c (o:Int) (s:Nat) (w:World) (hs:s < 4294967296) (h2:0 ≤ o∧o ≤ 15):Calls Tryz.prog 110 #[.agg #[.int .i64 o,.int .u32 (s:Int)]] w fun e w'=>e = .returned (.int .i64 (err (decide (s=0))))∧w.grownBy w' none:=by
 have HG0:Hid (w.grownBy (w.alloc (.cells #[.int .i64 o,.int .u32 (s:Int)] 58)) none):=qh (grown_alloc (grown_refl _ _) _)
 have HC:=qh (new2 w (.int .i64 o) (.int .u32 (s:Int)) 58)
 have hb:=low16 s hs
 obtain ⟨m,hm⟩:∃ m:Int,m=((s % 65536:Nat):Int):=⟨_,rfl⟩
 have hd:decide (o=-1∧(s:Int)=m)=false:=decide_eq_false (by omega)
 rw [← hm] at hb
 have HS:Hid (∀ w,_):=qh fun w=>shared_any m w
 have HI:Hid (∀ w,_):=qh fun w=>core_any o w
 rw [decide_eq_true h2] at HI
 have HO:Hid (∀ w,_):=qh fun w=>owned_any o w
 have he:∀ w,(binOp .eql 58 (.agg #[.int .i64 o,.int .u32 (s:Int)]) (.agg #[.int .i64 (-1),.int .u32 m])).run Tryz.prog w = .ok (.bool false) w:=fun w=>by rw [eqE,hd]
 obtain ⟨b,hbb⟩:∃ b,b=decide (s=0):=⟨_,rfl⟩
 have he2:∀ w,(binOp .eql 58 (.agg #[.int .i64 o,.int .u32 (s:Int)]) (.agg #[.int .i64 o,.int .u32 0])).run Tryz.prog w = .ok (.bool b) w:=fun w=>by
  rw [eqE,hbb];simp
 rw [← hbb]
 clear h2 hm hd hs hbb
 go_enter Tryz.func110,Tryz.ntmps110
 go_wp2_with fail
 refine wp_region_held_drew (S:=fun w'=>(w'.cell? ⟨w.heap.size,0,none⟩=some (.int .i64 o)∧w'.cell? ⟨w.heap.size,1,none⟩=some (.int .u32 (s:Int)))∧w.grownBy w' none) (by kernel_rfl) ⟨next2 HC.out (grown_drew (grown_refl _ _)),grown_drew HG0.out⟩ (fun hHeld=>?_)
 generalize (w.alloc _).drew=wd at hHeld ⊢
 refine tl 0 ?_ rfl ?_ ?_ (tl 1 ?_ rfl ?_ ?_ (tl 2 ?_ rfl ?_ ?_ (tl 3 ?_ rfl ?_ ?_ ?_)))
 iterate 4 (rotate_left;(next=>(try simp only [lay]);((intro w0 hSw;obtain ⟨⟨hs1,hs2⟩,hs3⟩:=hSw;go_simp);try (with_reducible rfl)));next=>rfl)
 try simp only [lay]
 refine rd 4 rfl fun K hK=>?_
 go_simp
 (with_reducible refine (HS.out _).mono ?_);rintro e w5 ⟨rfl,hg5⟩
 go_wp2_with fail
 refine hK.out _ _ ⟨next2 hHeld.1 hg5,grown_trans hHeld.2 hg5⟩ (fun hHeld=>?_)
 clear hK K
 try simp only [lay]
 refine tl 5 ?_ rfl ?_ ?_ (tl 6 ?_ rfl ?_ ?_ (tl 7 ?_ rfl ?_ ?_ (tl 8 ?_ rfl ?_ ?_ ?_)))
 iterate 4 (rotate_left;(next=>(try simp only [lay]);((intro w0 hSw;obtain ⟨⟨hs1,hs2⟩,hs3⟩:=hSw;go_simp);try (with_reducible rfl)));next=>rfl)
 try simp only [lay]
 refine rd 9 rfl fun K hK=>?_
 go_simp
 (with_reducible refine (HI.out _).mono ?_);rintro e w6 ⟨rfl,rfl⟩
 go_wp2_with fail
 refine hK.out _ _ hHeld (fun hHeld=>?_)
 clear hK K
 try simp only [lay]
 refine tl 10 ?_ rfl ?_ ?_ (tl 11 ?_ rfl ?_ ?_ (tl 12 ?_ rfl ?_ ?_ (tl 13 ?_ rfl ?_ ?_ ?_)))
 iterate 4 (rotate_left;(next=>(try simp only [lay]);((intro w0 hSw;obtain ⟨⟨hs1,hs2⟩,hs3⟩:=hSw;go_simp);try (with_reducible rfl)));next=>rfl)
 try simp only [lay]
 refine rd 14 rfl fun K hK=>?_
 go_simp
 (with_reducible refine (HO.out _).mono ?_);rintro e w5 ⟨rfl,hg5⟩
 go_wp2_with fail
 refine hK.out _ _ ⟨next2 hHeld.1 hg5,grown_trans hHeld.2 hg5⟩ (fun hHeld=>?_)
 clear hK K
 try simp only [lay]
 refine tl 15 ?_ rfl ?_ ?_ (tl 16 ?_ rfl ?_ ?_ (tl 17 ?_ rfl ?_ ?_ ?_))
 iterate 3 (rotate_left;(next=>(try simp only [lay]);((intro w0 hSw;obtain ⟨⟨hs1,hs2⟩,hs3⟩:=hSw;go_simp);try (with_reducible rfl)));next=>rfl)
 try simp only [lay]
 refine wpAnyH_done (by kernel_rfl) ?_ _
 cases b
 ·go_wp2_with fail
  go_ret
  exact ⟨rfl,hHeld.2⟩
 ·go_wp2_with fail
  go_ret
  exact ⟨rfl,hHeld.2⟩
theorem may_any (o:Int) (s:Nat) (w:World) (hs:s < 4294967296):Calls Tryz.prog 110 #[.agg #[.int .i64 o,.int .u32 (s:Int)]] w fun e w'=>e = .returned (.int .i64 (err (En.may ⟨o,s⟩)))∧w.grownBy w' none:=by
 by_cases h2:0 ≤ o∧o ≤ 15
 ·have e:En.may ⟨o,s⟩=decide (s=0):=by
   by_cases h:s=0
   ·rw [may_yes (by omega),decide_eq_true h]
   ·rw [may_no (by omega),decide_eq_false h]
  rw [e];exact may_c o s w hs h2
 ·by_cases h1:o=-1∧s < 65536
  ·obtain ⟨rfl,h1⟩:=h1
   rw [may_yes (by omega)];exact may_a s w h1
  ·rw [may_no (by omega)];exact may_b o s w hs h1 h2
end Go.Proofs.YtenhdijbcdkfbaaGreatDoor.en
namespace Go.Proofs.YtenhdijbcdkfbaaGreatDoor.en
set_option linter.unusedVariables false
set_option linter.unusedSimpArgs false
set_option maxRecDepth 1000000
set_option maxHeartbeats 16000000
open Go Go.ChangeShapes Go.WideShapes Go.ChangeAt Go.RowKit
open Go.Proofs.YtenhdijbcdkfbaaGreatDoor.mm (wi wo ha pop wi_lt wo_lt with_any rhas_any rhas_in ret_i64 ret_bool ret_u32)
theorem known_any (o:Int) (s:Nat) (w:World) (hs:s < 4294967296):Calls Tryz.prog 109 #[.agg #[.int .i64 o,.int .u32 (s:Int)]] w fun e w'=>e = .returned (.int .u32 (wi s o:Nat))∧w.grownBy w' none:=by
 have HW:=qh (with_any s o (w.alloc (.cells #[.int .i64 o,.int .u32 (s:Int)] 58)) hs)
 go_enter Tryz.func109,Tryz.ntmps109
 go_wp2_with (go_at_call 101;((with_reducible refine HW.out.mono ?_);rintro e w' ⟨rfl,rfl⟩))
 go_ret
 exact ⟨rfl,grown_alloc (grown_refl _ _) _⟩
theorem free_any (w:World):Calls Tryz.prog 30 #[] w fun e w'=>e = .returned (.agg #[.int .i64 (-1),.int .u32 0])∧w.grownBy w' none:=by
 have HS:Hid (∀ w,_):=qh fun w=>shared_any 0 w
 have HB:Hid ((w.alloc (.cells #[.int .i64 0,.int .u32 0] 58)).heap[w.heap.size]?=some (.cells #[.int .i64 0,.int .u32 0] 58 (0,0))):=qh (heap_alloc_new _ _)
 have HG0:Hid (w.grownBy (w.alloc (.cells #[.int .i64 0,.int .u32 0] 58)) none):=qh (grown_alloc (grown_refl _ _) _)
 go_enter Tryz.func30,Tryz.ntmps30
 go_wp2_with (first
  | (go_at_call 60;((with_reducible refine (HS.out _).mono ?_);rintro e w5 ⟨rfl,hg5⟩;have HB5:=qh (row_grown HB.out hg5);have HG5:=qh hg5;clear hg5))
  | ((with_reducible refine store_en (-1) 0 _ _ _ _ w.heap.size ?_ ?_ HB5.out ?_ ?_);(rfl);(rfl);(rfl)))
 refine ret1 rfl (by rfl) (setRow_heap _ _ _ _ _ _ HB5.out) ?_
 exact ⟨rfl,grown_setRow (grown_trans HG0.out HG5.out) _ (Nat.le_refl _) _⟩
theorem mayAsk_any (o:Int) (s:Nat) (k x:Int) (w:World) (hs:s < 4294967296):Calls Tryz.prog 99 #[.agg #[.int .i64 o,.int .u32 (s:Int)],.int .u8 k,.int .i64 x] w fun e w'=>e = .returned (.bool (ask ⟨o,s⟩ k x))∧w.grownBy w' none:=by
 have HG0:Hid (w.grownBy (w.alloc (.cells #[.int .i64 o,.int .u32 (s:Int)] 58)) none):=qh (grown_alloc (grown_refl _ _) _)
 have HM:Hid (∀ w,_):=qh fun w=>may_any o s w hs
 have HI:Hid (∀ w,_):=qh fun w=>core_any x w
 unfold ask
 cases hm:En.may ⟨o,s⟩
 ·rw [hm] at HM
  unfold err at HM
  clear hm hs HI
  go_enter Tryz.func99,Tryz.ntmps99
  go_wp2_with (go_at_call 110;((with_reducible refine (HM.out _).mono ?_);rintro e w5 ⟨rfl,hg5⟩;have HG5:=qh hg5;clear hg5))
  go_ret
  exact ⟨rfl,grown_trans HG0.out HG5.out⟩
 ·rw [hm] at HM
  unfold err at HM
  cases hx:decide (0 ≤ x∧x ≤ 15)
  ·rw [hx] at HI
   clear hm hs hx
   go_enter Tryz.func99,Tryz.ntmps99
   go_wp2_with (first
    | (go_at_call 110;((with_reducible refine (HM.out _).mono ?_);rintro e w5 ⟨rfl,hg5⟩;have HG5:=qh hg5;clear hg5))
    | (go_at_call 111;((with_reducible refine (HI.out _).mono ?_);rintro e w6 ⟨rfl,rfl⟩)))
   go_ret
   exact ⟨rfl,grown_trans HG0.out HG5.out⟩
  ·rw [hx] at HI
   clear hm hs hx
   by_cases h1:k=1
   ·subst h1
    go_enter Tryz.func99,Tryz.ntmps99
    go_wp2_with (first
     | (go_at_call 110;((with_reducible refine (HM.out _).mono ?_);rintro e w5 ⟨rfl,hg5⟩;have HG5:=qh hg5;clear hg5))
     | (go_at_call 111;((with_reducible refine (HI.out _).mono ?_);rintro e w6 ⟨rfl,rfl⟩)))
    go_ret
    exact ⟨rfl,grown_trans HG0.out HG5.out⟩
   ·have e1:(k == 1)=false:=by simpa using h1
    by_cases h2:k=2
    ·subst h2
     clear h1 e1
     go_enter Tryz.func99,Tryz.ntmps99
     go_wp2_with (first
      | (go_at_call 110;((with_reducible refine (HM.out _).mono ?_);rintro e w5 ⟨rfl,hg5⟩;have HG5:=qh hg5;clear hg5))
      | (go_at_call 111;((with_reducible refine (HI.out _).mono ?_);rintro e w6 ⟨rfl,rfl⟩)))
     go_ret
     exact ⟨rfl,grown_trans HG0.out HG5.out⟩
    ·have e2:(k == 2)=false:=by simpa using h2
     rw [decide_eq_false (p:=k=1 ∨ k=2) (by omega)]
     clear h1 h2
     go_enter Tryz.func99,Tryz.ntmps99
     go_wp2_with (first
      | (go_at_call 110;((with_reducible refine (HM.out _).mono ?_);rintro e w5 ⟨rfl,hg5⟩;have HG5:=qh hg5;clear hg5))
      | (go_at_call 111;((with_reducible refine (HI.out _).mono ?_);rintro e w6 ⟨rfl,rfl⟩)))
     go_ret
     exact ⟨rfl,grown_trans HG0.out HG5.out⟩
end Go.Proofs.YtenhdijbcdkfbaaGreatDoor.en
namespace Go.Proofs.YtenhdijbcdkfbaaGreatDoor.en
set_option linter.unusedVariables false
set_option linter.unusedSimpArgs false
set_option maxRecDepth 1000000
set_option maxHeartbeats 16000000
open Go Go.ChangeShapes Go.WideShapes Go.ChangeAt Go.RowKit
open Go.Proofs.YtenhdijbcdkfbaaGreatDoor.mm (wi wo ha pop wi_lt wo_lt rhas_in ret_i64 ret_bool ret_u32)
theorem high_none {s:Nat} (hs:s < 4294967296) (h:∀ j,16 ≤ j→j < 32→s.testBit j=false):s < 65536:=by
 have:s < 2 ^ 16:=Nat.lt_pow_two_of_testBit s (fun i hi=>by
  by_cases h32:i < 32
  ·exact h i hi h32
  ·exact Nat.testBit_lt_two_pow (Nat.lt_of_lt_of_le hs (by show 2 ^ 32 ≤ 2 ^ i;exact Nat.pow_le_pow_right (by decide) (by omega))))
 exact this
theorem high_has {s j:Nat} (h:s.testBit j=true) (hj:16 ≤ j):¬ s < 65536:=fun hl=>by
 rw [Nat.testBit_lt_two_pow (Nat.lt_of_lt_of_le hl (by show 2 ^ 16 ≤ 2 ^ j;exact Nat.pow_le_pow_right (by decide) hj))] at h
 cases h
theorem rmay_loop (o:Int) (s:Nat) (w:World) (hs:s < 4294967296) (h0:-1 ≤ o) (h1:o ≤ 15) (h2:0 ≤ o→s=0):Calls Tryz.prog 105 #[.agg #[.int .i64 o,.int .u32 (s:Int)]] w fun e w'=>e = .returned (.bool (decide (s < 65536)))∧w.grownBy w' none:=by
 have HG0:Hid (w.grownBy (w.alloc (.cells #[.int .i64 o,.int .u32 (s:Int)] 58)) none):=qh (grown_alloc (grown_refl _ _) _)
 have HS:=qh hs
 have t0:decide (o < -1)=false:=decide_eq_false (by omega)
 have t1:decide (15 < o)=false:=decide_eq_false (by omega)
 obtain ⟨b,hb⟩:∃ b,b=decide (0 ≤ o):=⟨_,rfl⟩
 have t3:b=true→((s:Int) != 0)=false:=fun h=>by
  rw [hb] at h
  have:=h2 (of_decide_eq_true h)
  simp [this]
 have t2:=hb.symm
 clear h0 h1 h2 hs hb
 go_enter Tryz.func105,Tryz.ntmps105
 cases b
 all_goals
  first | have t4:=t3 rfl | skip
  clear t3
  go_wp2_with fail
  go_loop [3] (fun i=>∃ k:Nat,16 ≤ k∧k ≤ 32∧i = .int .i64 (k:Int)∧(∀ j,16 ≤ j→j < k→s.testBit j=false)) (fun i=>32 - (intOf i).toNat)
  case atStart=>exact ⟨16,by omega,by omega,rfl,fun j h1 h2=>by omega⟩
  case round=>
   obtain ⟨k,hk1,hk2,rfl,hall⟩:=hrel
   have HA:=qh hall
   clear hall
   by_cases hlt:k < 32
   ·have hq:=rhas_in s k (w.alloc (.cells #[.int .i64 o,.int .u32 (s:Int)] 58)) HS.out hlt
    cases ht:s.testBit k
    ·rw [ht] at hq
     have HQ:=qh hq
     have HT:=qh ht
     clear hq ht
     go_wp2_with (go_at_call 39;((with_reducible refine HQ.out.mono ?_);rintro e w' ⟨rfl,rfl⟩))
     go_round
     case rel=>exact ⟨k + 1,by omega,by omega,by go_num,fun j h1 h2=>by
      by_cases e:j=k
      ·rw [e];exact HT.out
      ·exact HA.out j h1 (by omega)⟩
     case measure=>simp [intOf];omega
    ·rw [ht] at hq
     have HQ:=qh hq
     have HT:=qh ht
     clear hq ht
     go_wp2_with (go_at_call 39;((with_reducible refine HQ.out.mono ?_);rintro e w' ⟨rfl,rfl⟩))
     go_ret
     exact ⟨ret_bool (decide_eq_false (high_has HT.out hk1)).symm,HG0.out⟩
   ·obtain rfl:k=32:=by omega
    go_wp2_with fail
    go_ret
    exact ⟨ret_bool (decide_eq_true (high_none HS.out HA.out)).symm,HG0.out⟩
theorem rmay_any (o:Int) (s:Nat) (w:World) (hs:s < 4294967296):Calls Tryz.prog 105 #[.agg #[.int .i64 o,.int .u32 (s:Int)]] w fun e w'=>e = .returned (.bool (En.may ⟨o,s⟩))∧w.grownBy w' none:=by
 have hg0:w.grownBy (w.alloc (.cells #[.int .i64 o,.int .u32 (s:Int)] 58)) none:=grown_alloc (grown_refl _ _) _
 by_cases h0:-1 ≤ o
 ·by_cases h1:o ≤ 15
  ·by_cases h2:0 ≤ o→s=0
   ·have e:En.may ⟨o,s⟩=decide (s < 65536):=by
     by_cases h:s < 65536
     ·rw [may_yes (by omega),decide_eq_true h]
     ·rw [may_no (by omega),decide_eq_false h]
    rw [e];exact rmay_loop o s w hs h0 h1 h2
   ·rw [may_no (by omega)]
    have t0:decide (o < -1)=false:=decide_eq_false (by omega)
    have t1:decide (15 < o)=false:=decide_eq_false (by omega)
    have t2:decide (0 ≤ o)=true:=decide_eq_true (by omega)
    have t3:((s:Int) != 0)=true:=by simp;omega
    clear h0 h1 h2
    go_enter Tryz.func105,Tryz.ntmps105
    go_wp2_with fail
    go_ret
    exact ⟨rfl,hg0⟩
  ·rw [may_no (by omega)]
   have t0:decide (o < -1)=false:=decide_eq_false (by omega)
   have t1:decide (15 < o)=true:=decide_eq_true (by omega)
   clear h0 h1
   go_enter Tryz.func105,Tryz.ntmps105
   go_wp2_with fail
   go_ret
   exact ⟨rfl,hg0⟩
 ·rw [may_no (by omega)]
  have t0:decide (o < -1)=true:=decide_eq_true (by omega)
  clear h0
  go_enter Tryz.func105,Tryz.ntmps105
  go_wp2_with fail
  go_ret
  exact ⟨rfl,hg0⟩
theorem rask_any (o:Int) (s:Nat) (k x:Int) (w:World) (hs:s < 4294967296):Calls Tryz.prog 106 #[.agg #[.int .i64 o,.int .u32 (s:Int)],.int .u8 k,.int .i64 x] w fun e w'=>e = .returned (.bool (ask ⟨o,s⟩ k x))∧w.grownBy w' none:=by
 have HG0:Hid (w.grownBy (w.alloc (.cells #[.int .i64 o,.int .u32 (s:Int)] 58)) none):=qh (grown_alloc (grown_refl _ _) _)
 have HM:Hid (∀ w,_):=qh fun w=>rmay_any o s w hs
 unfold ask
 cases hm:En.may ⟨o,s⟩
 ·rw [hm] at HM
  clear hm hs
  go_enter Tryz.func106,Tryz.ntmps106
  go_wp2_with (go_at_call 105;((with_reducible refine (HM.out _).mono ?_);rintro e w5 ⟨rfl,hg5⟩;have HG5:=qh hg5;clear hg5))
  go_ret
  exact ⟨rfl,grown_trans HG0.out HG5.out⟩
 ·rw [hm] at HM
  clear hm hs
  rcases Int.lt_or_le x 0 with hx | hx
  ·have e1:decide (0 ≤ x)=false:=decide_eq_false (by omega)
   rw [decide_eq_false (p:=0 ≤ x∧x ≤ 15) (by omega)]
   clear hx
   by_cases h1:k=1
   ·subst h1
    go_enter Tryz.func106,Tryz.ntmps106
    go_wp2_with (go_at_call 105;((with_reducible refine (HM.out _).mono ?_);rintro e w5 ⟨rfl,hg5⟩;have HG5:=qh hg5;clear hg5))
    go_ret
    exact ⟨rfl,grown_trans HG0.out HG5.out⟩
   ·have f1:(k == 1)=false:=by simpa using h1
    by_cases h2:k=2
    ·subst h2
     clear h1 f1
     go_enter Tryz.func106,Tryz.ntmps106
     go_wp2_with (go_at_call 105;((with_reducible refine (HM.out _).mono ?_);rintro e w5 ⟨rfl,hg5⟩;have HG5:=qh hg5;clear hg5))
     go_ret
     exact ⟨rfl,grown_trans HG0.out HG5.out⟩
    ·have f2:(k == 2)=false:=by simpa using h2
     rw [decide_eq_false (p:=k=1 ∨ k=2) (by omega)]
     clear h1 h2
     go_enter Tryz.func106,Tryz.ntmps106
     go_wp2_with (go_at_call 105;((with_reducible refine (HM.out _).mono ?_);rintro e w5 ⟨rfl,hg5⟩;have HG5:=qh hg5;clear hg5))
     go_ret
     exact ⟨rfl,grown_trans HG0.out HG5.out⟩
  ·have e1:decide (0 ≤ x)=true:=decide_eq_true hx
   obtain ⟨d,hd⟩:∃ d,d=decide (x ≤ 15):=⟨_,rfl⟩
   have e2:decide (0 ≤ x∧x ≤ 15)=d:=by
    rw [hd];by_cases h:x ≤ 15 <;> simp [h,hx]
   have e3:=hd.symm
   rw [e2]
   clear hx hd e2
   cases d
   all_goals
    by_cases h1:k=1
    ·subst h1
     go_enter Tryz.func106,Tryz.ntmps106
     go_wp2_with (go_at_call 105;((with_reducible refine (HM.out _).mono ?_);rintro e w5 ⟨rfl,hg5⟩;have HG5:=qh hg5;clear hg5))
     go_ret
     exact ⟨rfl,grown_trans HG0.out HG5.out⟩
    ·have f1:(k == 1)=false:=by simpa using h1
     by_cases h2:k=2
     ·subst h2
      clear h1 f1
      go_enter Tryz.func106,Tryz.ntmps106
      go_wp2_with (go_at_call 105;((with_reducible refine (HM.out _).mono ?_);rintro e w5 ⟨rfl,hg5⟩;have HG5:=qh hg5;clear hg5))
      go_ret
      exact ⟨rfl,grown_trans HG0.out HG5.out⟩
     ·have f2:(k == 2)=false:=by simpa using h2
      rw [decide_eq_false (p:=k=1 ∨ k=2) (by omega)]
      clear h1 h2
      go_enter Tryz.func106,Tryz.ntmps106
      go_wp2_with (go_at_call 105;((with_reducible refine (HM.out _).mono ?_);rintro e w5 ⟨rfl,hg5⟩;have HG5:=qh hg5;clear hg5))
      go_ret
      exact ⟨rfl,grown_trans HG0.out HG5.out⟩
end Go.Proofs.YtenhdijbcdkfbaaGreatDoor.en
namespace Go.Proofs.YtenhdijbcdkfbaaGreatDoor.en
set_option linter.unusedVariables false
set_option linter.unusedSimpArgs false
set_option maxRecDepth 1000000
set_option maxHeartbeats 16000000
open Go Go.ChangeShapes Go.WideShapes Go.ChangeAt Go.RowKit
open Go.Proofs.YtenhdijbcdkfbaaGreatDoor.mm (wi wo ha pop wi_lt wo_lt with_any count_any)
def gets (e:En) (k x:Int):En × Int × Int:=
 if ask e k x then (if k=2 then (⟨x,0⟩,3,0) else if pop (wi (wi e.s e.o) x) 32=1 then (⟨x,0⟩,2,0) else (⟨-1,wi (wi e.s e.o) x⟩,1,0)) else (⟨0,0⟩,0,2)
def got (r:En × Int × Int):Ending:= .returned (.tuple #[.agg #[.int .i64 r.1.o,.int .u32 (r.1.s:Int)],.int .u8 r.2.1,.int .i64 r.2.2])
def back (e:En) (x:Int) (st:Bool):En × Bool × Int:=
 if e.may && decide (0 ≤ x∧x ≤ 15) then (if e.o=x then (if st then e else free,true,0) else (e,false,0)) else (⟨0,0⟩,false,2)
def gone (r:En × Bool × Int):Ending:= .returned (.tuple #[.agg #[.int .i64 r.1.o,.int .u32 (r.1.s:Int)],.bool r.2.1,.int .i64 r.2.2])
theorem put2_old (w:World) (a b c d:Value) (t:TypeId):((w.alloc (.cells #[a,b] t)).alloc (.cells #[c,d] t)).heap[w.heap.size]?=some (.cells #[a,b] t (0,0)):=
 (Below.heap_alloc _ _ _ (by simp)).trans (heap_alloc_new _ _)
theorem put2_new (w:World) (a b c d:Value) (t:TypeId):((w.alloc (.cells #[a,b] t)).alloc (.cells #[c,d] t)).heap[w.heap.size + 1]?=some (.cells #[c,d] t (0,0)):=by
 have:=heap_alloc_new (w.alloc (.cells #[a,b] t)) (.cells #[c,d] t)
 rwa [World.size_alloc] at this
theorem gets_any (o:Int) (s:Nat) (k x:Int) (w:World) (hs:s < 4294967296):Calls Tryz.prog 94 #[.agg #[.int .i64 o,.int .u32 (s:Int)],.int .u8 k,.int .i64 x] w fun e w'=>e=got (gets ⟨o,s⟩ k x)∧w.grownBy w' none:=by
 have HA:=qh (put2_old w (.int .i64 o) (.int .u32 (s:Int)) (.int .i64 0) (.int .u32 0) 58)
 have HB:=qh (put2_new w (.int .i64 o) (.int .u32 (s:Int)) (.int .i64 0) (.int .u32 0) 58)
 have HG0:Hid (w.grownBy ((w.alloc (.cells #[.int .i64 o,.int .u32 (s:Int)] 58)).alloc (.cells #[.int .i64 0,.int .u32 0] 58)) none):=qh (grown_alloc (grown_alloc (grown_refl _ _) _) _)
 have HM:Hid (∀ w,_):=qh fun w=>mayAsk_any o s k x w hs
 have HK:Hid (∀ w,_):=qh fun w=>known_any o s w hs
 have HO:Hid (∀ w,_):=qh fun w=>owned_any x w
 have hml:=wi_lt s o hs
 have HW:Hid (∀ w,_):=qh fun w=>with_any (wi s o) x w hml
 have hpl:=wi_lt (wi s o) x hml
 have HC:Hid (∀ w,_):=qh fun w=>count_any (wi (wi s o) x) w hpl
 have HS:Hid (∀ w,_):=qh fun w=>shared_any (wi (wi s o) x:Nat) w
 unfold gets
 generalize wi (wi s o) x=p at HW HC HS ⊢
 generalize wi s o=m at HW HK
 cases hask:ask ⟨o,s⟩ k x
 ·rw [hask] at HM
  rw [if_neg (by simp)]
  clear hask hml hpl hs
  go_enter Tryz.func94,Tryz.ntmps94
  go_wp2_with (first
   | ((with_reducible refine load_en _ _ _ _ _ w.heap.size ?_ HA.out ?_);(rfl))
   | (go_at_call 99;((with_reducible refine (HM.out _).mono ?_);rintro e w5 ⟨rfl,hg5⟩;have HB5:=qh (row_grown HB.out hg5);have HG5:=qh (grown_trans HG0.out hg5);clear hg5))
   | ((with_reducible refine store_en 0 0 _ _ _ _ (w.heap.size + 1) ?_ ?_ HB5.out ?_ ?_);(rfl);(rfl);(rfl)))
  refine ret3 rfl (by rfl) rfl rfl (setRow_heap _ _ _ _ _ _ HB5.out) ?_
  exact ⟨rfl,grown_setRow HG5.out _ (by omega) _⟩
 ·rw [hask] at HM
  rw [if_pos rfl]
  clear hask hml hpl hs
  by_cases hk:k=2
  ·subst hk
   rw [if_pos rfl]
   go_enter Tryz.func94,Tryz.ntmps94
   go_wp2_with (first
    | ((with_reducible refine load_en _ _ _ _ _ w.heap.size ?_ HA.out ?_);(rfl))
    | (go_at_call 99;((with_reducible refine (HM.out _).mono ?_);rintro e w5 ⟨rfl,hg5⟩;have HB5:=qh (row_grown HB.out hg5);have HG5:=qh (grown_trans HG0.out hg5);clear hg5))
    | (go_at_call 108;((with_reducible refine (HO.out _).mono ?_);rintro e w6 ⟨rfl,hg6⟩;have HB6:=qh (row_grown HB5.out hg6);have HG6:=qh (grown_trans HG5.out hg6);clear hg6))
    | ((with_reducible refine store_en x 0 _ _ _ _ (w.heap.size + 1) ?_ ?_ HB6.out ?_ ?_);(rfl);(rfl);(rfl)))
   refine ret3 rfl (by rfl) rfl rfl (setRow_heap _ _ _ _ _ _ HB6.out) ?_
   exact ⟨rfl,grown_setRow HG6.out _ (by omega) _⟩
  ·rw [if_neg hk]
   have hk2:(k == 2)=false:=by simpa using hk
   clear hk
   by_cases hp:pop p 32=1
   ·rw [if_pos hp]
    rw [hp] at HC
    clear hp
    go_enter Tryz.func94,Tryz.ntmps94
    go_wp2_with (first
     | ((with_reducible refine load_en _ _ _ _ _ w.heap.size ?_ HA.out ?_);(rfl))
     | (go_at_call 99;((with_reducible refine (HM.out _).mono ?_);rintro e w5 ⟨rfl,hg5⟩;have HA5:=qh (row_grown HA.out hg5);have HB5:=qh (row_grown HB.out hg5);have HG5:=qh (grown_trans HG0.out hg5);clear hg5))
     | ((with_reducible refine load_en _ _ _ _ _ w.heap.size ?_ HA5.out ?_);(rfl))
     | (go_at_call 109;((with_reducible refine (HK.out _).mono ?_);rintro e w6 ⟨rfl,hg6⟩;have HB6:=qh (row_grown HB5.out hg6);have HG6:=qh (grown_trans HG5.out hg6);clear hg6))
     | (go_at_call 101;((with_reducible refine (HW.out _).mono ?_);rintro e w7 ⟨rfl,rfl⟩))
     | (go_at_call 76;((with_reducible refine (HC.out _).mono ?_);rintro e w8 ⟨rfl,n8,hw8⟩;have HB8:=qh (row_grown HB6.out (hw8 ▸ grown_drewN (grown_refl _ _) n8));have HG8:=qh (hw8 ▸ grown_drewN HG6.out n8);clear hw8))
     | (go_at_call 108;((with_reducible refine (HO.out _).mono ?_);rintro e w9 ⟨rfl,hg9⟩;have HB9:=qh (row_grown HB8.out hg9);have HG9:=qh (grown_trans HG8.out hg9);clear hg9))
     | ((with_reducible refine store_en x 0 _ _ _ _ (w.heap.size + 1) ?_ ?_ HB9.out ?_ ?_);(rfl);(rfl);(rfl)))
    refine ret3 rfl (by rfl) rfl rfl (setRow_heap _ _ _ _ _ _ HB9.out) ?_
    exact ⟨rfl,grown_setRow HG9.out _ (by omega) _⟩
   ·rw [if_neg hp]
    have hp2:(((pop p 32:Nat):Int) == 1)=false:=by simp;omega
    clear hp
    go_enter Tryz.func94,Tryz.ntmps94
    go_wp2_with (first
     | ((with_reducible refine load_en _ _ _ _ _ w.heap.size ?_ HA.out ?_);(rfl))
     | (go_at_call 99;((with_reducible refine (HM.out _).mono ?_);rintro e w5 ⟨rfl,hg5⟩;have HA5:=qh (row_grown HA.out hg5);have HB5:=qh (row_grown HB.out hg5);have HG5:=qh (grown_trans HG0.out hg5);clear hg5))
     | ((with_reducible refine load_en _ _ _ _ _ w.heap.size ?_ HA5.out ?_);(rfl))
     | (go_at_call 109;((with_reducible refine (HK.out _).mono ?_);rintro e w6 ⟨rfl,hg6⟩;have HB6:=qh (row_grown HB5.out hg6);have HG6:=qh (grown_trans HG5.out hg6);clear hg6))
     | (go_at_call 101;((with_reducible refine (HW.out _).mono ?_);rintro e w7 ⟨rfl,rfl⟩))
     | (go_at_call 76;((with_reducible refine (HC.out _).mono ?_);rintro e w8 ⟨rfl,n8,hw8⟩;have HB8:=qh (row_grown HB6.out (hw8 ▸ grown_drewN (grown_refl _ _) n8));have HG8:=qh (hw8 ▸ grown_drewN HG6.out n8);clear hw8))
     | (go_at_call 60;((with_reducible refine (HS.out _).mono ?_);rintro e w9 ⟨rfl,hg9⟩;have HB9:=qh (row_grown HB8.out hg9);have HG9:=qh (grown_trans HG8.out hg9);clear hg9))
     | ((with_reducible refine store_en (-1) (p:Int) _ _ _ _ (w.heap.size + 1) ?_ ?_ HB9.out ?_ ?_);(rfl);(rfl);(rfl)))
    refine ret3 rfl (by rfl) rfl rfl (setRow_heap _ _ _ _ _ _ HB9.out) ?_
    exact ⟨rfl,grown_setRow HG9.out _ (by omega) _⟩
end Go.Proofs.YtenhdijbcdkfbaaGreatDoor.en
namespace Go.Proofs.YtenhdijbcdkfbaaGreatDoor.en
set_option linter.unusedVariables false
set_option linter.unusedSimpArgs false
set_option maxRecDepth 1000000
set_option maxHeartbeats 16000000
open Go Go.ChangeShapes Go.WideShapes Go.ChangeAt Go.RowKit
open Go.Proofs.YtenhdijbcdkfbaaGreatDoor.mm (wi wo ha pop wi_lt wo_lt with_any count_any)
theorem cells2 {w:World} {g:Nat} {a b:Value} {t:TypeId} {fr:Nat × Nat} (h:w.heap[g]?=some (.cells #[a,b] t fr)):w.cell? ⟨g,0,none⟩=some a∧w.cell? ⟨g,1,none⟩=some b:=
 ⟨cell_of_row _ _ 0 _ _ _ h,cell_of_row _ _ 1 _ _ _ h⟩
theorem back_bad (o:Int) (s:Nat) (x:Int) (st:Bool) (w:World) (hs:s < 4294967296) (h:(En.may ⟨o,s⟩ && decide (0 ≤ x∧x ≤ 15))=false):Calls Tryz.prog 98 #[.agg #[.int .i64 o,.int .u32 (s:Int)],.int .i64 x,.bool st] w fun e w'=>e=gone (⟨0,0⟩,false,2)∧w.grownBy w' none:=by
 have HA:=qh (put2_old w (.int .i64 o) (.int .u32 (s:Int)) (.int .i64 0) (.int .u32 0) 58)
 have HB:=qh (put2_new w (.int .i64 o) (.int .u32 (s:Int)) (.int .i64 0) (.int .u32 0) 58)
 have HG0:Hid (w.grownBy ((w.alloc (.cells #[.int .i64 o,.int .u32 (s:Int)] 58)).alloc (.cells #[.int .i64 0,.int .u32 0] 58)) none):=qh (grown_alloc (grown_alloc (grown_refl _ _) _) _)
 have HM:Hid (∀ w,_):=qh fun w=>may_any o s w hs
 have HI:Hid (∀ w,_):=qh fun w=>core_any x w
 cases hm:En.may ⟨o,s⟩
 ·rw [hm] at HM
  unfold err at HM
  clear hm h hs HI
  go_enter Tryz.func98,Tryz.ntmps98
  go_wp2_with (first
   | ((with_reducible refine load_en _ _ _ _ _ w.heap.size ?_ HA.out ?_);(rfl))
   | (go_at_call 110;((with_reducible refine (HM.out _).mono ?_);rintro e w5 ⟨rfl,hg5⟩;have HB5:=qh (row_grown HB.out hg5);have HG5:=qh (grown_trans HG0.out hg5);clear hg5))
   | ((with_reducible refine store_en 0 0 _ _ _ _ (w.heap.size + 1) ?_ ?_ HB5.out ?_ ?_);(rfl);(rfl);(rfl)))
  refine ret3 rfl (by rfl) rfl rfl (setRow_heap _ _ _ _ _ _ HB5.out) ?_
  exact ⟨rfl,grown_setRow HG5.out _ (by omega) _⟩
 ·rw [hm] at HM h
  rw [Bool.true_and] at h
  rw [h] at HI
  unfold err at HM
  clear hm h hs
  go_enter Tryz.func98,Tryz.ntmps98
  go_wp2_with (first
   | ((with_reducible refine load_en _ _ _ _ _ w.heap.size ?_ HA.out ?_);(rfl))
   | (go_at_call 110;((with_reducible refine (HM.out _).mono ?_);rintro e w5 ⟨rfl,hg5⟩;have HB5:=qh (row_grown HB.out hg5);have HG5:=qh (grown_trans HG0.out hg5);clear hg5))
   | (go_at_call 111;((with_reducible refine (HI.out _).mono ?_);rintro e w6 ⟨rfl,rfl⟩))
   | ((with_reducible refine store_en 0 0 _ _ _ _ (w.heap.size + 1) ?_ ?_ HB5.out ?_ ?_);(rfl);(rfl);(rfl)))
  refine ret3 rfl (by rfl) rfl rfl (setRow_heap _ _ _ _ _ _ HB5.out) ?_
  exact ⟨rfl,grown_setRow HG5.out _ (by omega) _⟩
theorem back_ok (o:Int) (s:Nat) (x:Int) (st:Bool) (w:World) (hs:s < 4294967296) (h1:En.may ⟨o,s⟩=true) (h2:decide (0 ≤ x∧x ≤ 15)=true) (t:Bool) (ht:decide (o=x∧s=0)=t) :
  Calls Tryz.prog 98 #[.agg #[.int .i64 o,.int .u32 (s:Int)],.int .i64 x,.bool st] w fun e w'=>e=gone ((if t && !st then free else ⟨o,s⟩),t,0)∧w.grownBy w' none:=by
 have HA:=qh (put2_old w (.int .i64 o) (.int .u32 (s:Int)) (.int .i64 0) (.int .u32 0) 58)
 have HB:=qh (put2_new w (.int .i64 o) (.int .u32 (s:Int)) (.int .i64 0) (.int .u32 0) 58)
 have HG0:Hid (w.grownBy ((w.alloc (.cells #[.int .i64 o,.int .u32 (s:Int)] 58)).alloc (.cells #[.int .i64 0,.int .u32 0] 58)) none):=qh (grown_alloc (grown_alloc (grown_refl _ _) _) _)
 have HM:Hid (∀ w,_):=qh fun w=>may_any o s w hs
 have HI:Hid (∀ w,_):=qh fun w=>core_any x w
 have HO:Hid (∀ w,_):=qh fun w=>owned_any x w
 have HF:Hid (∀ w,_):=qh fun w=>free_any w
 have he2:∀ w,(binOp .eql 58 (.agg #[.int .i64 o,.int .u32 (s:Int)]) (.agg #[.int .i64 x,.int .u32 0])).run Tryz.prog w = .ok (.bool t) w:=fun w=>by
  rw [eqE,← ht];simp
 rw [h1] at HM
 rw [h2] at HI
 unfold err at HM
 clear h1 h2 hs ht
 go_enter Tryz.func98,Tryz.ntmps98
 go_wp2_with (first
  | ((with_reducible refine load_en _ _ _ _ _ w.heap.size ?_ HA.out ?_);(rfl))
  | (go_at_call 110;((with_reducible refine (HM.out _).mono ?_);rintro e w5 ⟨rfl,hg5⟩;have HA5:=qh (row_grown HA.out hg5);have HB5:=qh (row_grown HB.out hg5);have HG5:=qh (grown_trans HG0.out hg5);clear hg5))
  | (go_at_call 111;((with_reducible refine (HI.out _).mono ?_);rintro e w6 ⟨rfl,rfl⟩)))
 go_region_held3 (fun w'=>w'.cell? ⟨w.heap.size,0,none⟩=some (.int .i64 o)∧w'.cell? ⟨w.heap.size,1,none⟩=some (.int .u32 (s:Int)))
  (first | exact cells2 (row_grown HA5.out (grown_drew (grown_refl _ _))) | exact next2 (by assumption) (by assumption))
  (first | (go_at_call 108;((with_reducible refine (HO.out _).mono ?_);rintro e w7 ⟨rfl,hg7⟩)))
 have HG7:=qh (grown_trans (grown_drew HG5.out) hg7)
 have HA7:=qh (row_grown HA5.out (grown_trans (grown_drew (grown_refl _ _)) hg7))
 have HB7:=qh (row_grown HB5.out (grown_trans (grown_drew (grown_refl _ _)) hg7))
 clear hg7 he2
 cases t
 ·go_wp2_with (first
   | ((with_reducible refine load_en _ _ _ _ _ w.heap.size ?_ HA7.out ?_);(rfl))
   | ((with_reducible refine store_en o (s:Int) _ _ _ _ (w.heap.size + 1) ?_ ?_ HB7.out ?_ ?_);(rfl);(rfl);(rfl)))
  refine ret3 rfl (by rfl) rfl rfl (setRow_heap _ _ _ _ _ _ HB7.out) ?_
  exact ⟨rfl,grown_setRow HG7.out _ (by omega) _⟩
 ·cases st
  ·go_wp2_with (first
    | (go_at_call 30;((with_reducible refine (HF.out _).mono ?_);rintro e w8 ⟨rfl,hg8⟩;have HB8:=qh (row_grown HB7.out hg8);have HG8:=qh (grown_trans HG7.out hg8);clear hg8))
    | ((with_reducible refine store_en (-1) 0 _ _ _ _ (w.heap.size + 1) ?_ ?_ HB8.out ?_ ?_);(rfl);(rfl);(rfl)))
   refine ret3 rfl (by rfl) rfl rfl (setRow_heap _ _ _ _ _ _ HB8.out) ?_
   exact ⟨rfl,grown_setRow HG8.out _ (by omega) _⟩
  ·go_wp2_with (first
    | ((with_reducible refine load_en _ _ _ _ _ w.heap.size ?_ HA7.out ?_);(rfl))
    | ((with_reducible refine store_en o (s:Int) _ _ _ _ (w.heap.size + 1) ?_ ?_ HB7.out ?_ ?_);(rfl);(rfl);(rfl)))
   refine ret3 rfl (by rfl) rfl rfl (setRow_heap _ _ _ _ _ _ HB7.out) ?_
   exact ⟨rfl,grown_setRow HG7.out _ (by omega) _⟩
theorem back_any (o:Int) (s:Nat) (x:Int) (st:Bool) (w:World) (hs:s < 4294967296):Calls Tryz.prog 98 #[.agg #[.int .i64 o,.int .u32 (s:Int)],.int .i64 x,.bool st] w fun e w'=>e=gone (back ⟨o,s⟩ x st)∧w.grownBy w' none:=by
 unfold back
 cases h:En.may ⟨o,s⟩ && decide (0 ≤ x∧x ≤ 15)
 ·rw [if_neg (by simp)];exact back_bad o s x st w hs h
 ·rw [if_pos rfl]
  rw [Bool.and_eq_true] at h
  have hm:=of_decide_eq_true h.1
  have hx:=of_decide_eq_true h.2
  by_cases ho:o=x
  ·have:=back_ok o s x st w hs h.1 h.2 true (decide_eq_true ⟨ho,hm.2.2.2 (by show o ≠ -1;omega)⟩)
   rw [if_pos (show (⟨o,s⟩:En).o=x from ho)]
   cases st <;> exact this
  ·have:=back_ok o s x st w hs h.1 h.2 false (decide_eq_false (fun e=>ho e.1))
   rw [if_neg (show ¬ (⟨o,s⟩:En).o=x from ho)]
   exact this
end Go.Proofs.YtenhdijbcdkfbaaGreatDoor.en
namespace Go.Proofs.YtenhdijbcdkfbaaGreatDoor.en
set_option linter.unusedVariables false
set_option linter.unusedSimpArgs false
set_option maxRecDepth 1000000
set_option maxHeartbeats 16000000
open Go Go.ChangeShapes Go.WideShapes Go.ChangeAt Go.RowKit
open Go.Proofs.YtenhdijbcdkfbaaGreatDoor.mm (wi wo ha pop wi_lt wo_lt with_any count_any)
theorem ne_same (a b:Int) (w:World):(binOp .neq 58 (.agg #[.int .i64 a,.int .u32 b]) (.agg #[.int .i64 a,.int .u32 b])).run Tryz.prog w = .ok (.bool false) w:=by
 rw [neE];simp
theorem rback_any (o:Int) (s:Nat) (x:Int) (st:Bool) (w:World) (hs:s < 4294967296):Calls Tryz.prog 78 #[.agg #[.int .i64 o,.int .u32 (s:Int)],.int .i64 x,.bool st] w fun e w'=>e=gone (back ⟨o,s⟩ x st)∧w.grownBy w' none:=by
 have HA:=qh (put2_old w (.int .i64 o) (.int .u32 (s:Int)) (.int .i64 0) (.int .u32 0) 58)
 have HB:=qh (put2_new w (.int .i64 o) (.int .u32 (s:Int)) (.int .i64 0) (.int .u32 0) 58)
 have HG0:Hid (w.grownBy ((w.alloc (.cells #[.int .i64 o,.int .u32 (s:Int)] 58)).alloc (.cells #[.int .i64 0,.int .u32 0] 58)) none):=qh (grown_alloc (grown_alloc (grown_refl _ _) _) _)
 have HM:Hid (∀ w,_):=qh fun w=>rmay_any o s w hs
 unfold back
 cases hm:En.may ⟨o,s⟩
 ·rw [if_neg (by simp)]
  rw [hm] at HM
  clear hm hs
  go_enter Tryz.func78,Tryz.ntmps78
  go_wp2_with (first
   | ((with_reducible refine load_en _ _ _ _ _ w.heap.size ?_ HA.out ?_);(rfl))
   | (go_at_call 105;((with_reducible refine (HM.out _).mono ?_);rintro e w5 ⟨rfl,hg5⟩;have HB5:=qh (row_grown HB.out hg5);have HG5:=qh (grown_trans HG0.out hg5);clear hg5))
   | ((with_reducible refine store_en 0 0 _ _ _ _ (w.heap.size + 1) ?_ ?_ HB5.out ?_ ?_);(rfl);(rfl);(rfl)))
  refine ret3 rfl (by rfl) rfl rfl (setRow_heap _ _ _ _ _ _ HB5.out) ?_
  exact ⟨rfl,grown_setRow HG5.out _ (by omega) _⟩
 ·rw [hm] at HM
  clear hm hs
  by_cases h0:0 ≤ x
  ·have e0:decide (x < 0)=false:=decide_eq_false (by omega)
   by_cases h1:x ≤ 15
   ·have e1:decide (15 < x)=false:=decide_eq_false (by omega)
    rw [if_pos (by simp [h0,h1])]
    clear h0 h1
    by_cases ho:o=x
    ·subst ho
     rw [if_pos rfl]
     cases st
     ·go_enter Tryz.func78,Tryz.ntmps78
      go_wp2_with (first
       | ((with_reducible refine load_en _ _ _ _ _ w.heap.size ?_ HA.out ?_);(rfl))
       | (go_at_call 105;((with_reducible refine (HM.out _).mono ?_);rintro e w5 ⟨rfl,hg5⟩;have HA5:=qh (row_grown HA.out hg5);obtain ⟨c0,c1⟩:=cells2 HA5.out;have HB5:=qh (row_grown HB.out hg5);have HG5:=qh (grown_trans HG0.out hg5);clear hg5))
       | ((with_reducible refine store_en (-1) 0 _ _ _ _ (w.heap.size + 1) ?_ ?_ HB5.out ?_ ?_);(rfl);(rfl);(rfl)))
      refine ret3 rfl (by rfl) rfl rfl (setRow_heap _ _ _ _ _ _ HB5.out) ?_
      exact ⟨rfl,grown_setRow HG5.out _ (by omega) _⟩
     ·go_enter Tryz.func78,Tryz.ntmps78
      go_wp2_with (first
       | ((with_reducible refine load_en _ _ _ _ _ w.heap.size ?_ HA.out ?_);(rfl))
       | (go_at_call 105;((with_reducible refine (HM.out _).mono ?_);rintro e w5 ⟨rfl,hg5⟩;have HA5:=qh (row_grown HA.out hg5);obtain ⟨c0,c1⟩:=cells2 HA5.out;have HB5:=qh (row_grown HB.out hg5);have HG5:=qh (grown_trans HG0.out hg5);clear hg5))
       | ((with_reducible refine load_en _ _ _ _ _ w.heap.size ?_ HA5.out ?_);(rfl))
       | ((with_reducible refine store_en o (s:Int) _ _ _ _ (w.heap.size + 1) ?_ ?_ HB5.out ?_ ?_);(rfl);(rfl);(rfl)))
      refine ret3 rfl (by rfl) rfl rfl (setRow_heap _ _ _ _ _ _ HB5.out) ?_
      exact ⟨rfl,grown_setRow HG5.out _ (by omega) _⟩
    ·have e2:(o != x)=true:=by simpa using ho
     rw [if_neg (show ¬ (⟨o,s⟩:En).o=x from ho)]
     clear ho
     go_enter Tryz.func78,Tryz.ntmps78
     go_wp2_with (first
      | ((with_reducible refine load_en _ _ _ _ _ w.heap.size ?_ HA.out ?_);(rfl))
      | (go_at_call 105;((with_reducible refine (HM.out _).mono ?_);rintro e w5 ⟨rfl,hg5⟩;have HA5:=qh (row_grown HA.out hg5);obtain ⟨c0,c1⟩:=cells2 HA5.out;have HB5:=qh (row_grown HB.out hg5);have HG5:=qh (grown_trans HG0.out hg5);clear hg5))
      | ((with_reducible refine load_en _ _ _ _ _ w.heap.size ?_ HA5.out ?_);(rfl))
      | ((with_reducible refine store_en o (s:Int) _ _ _ _ (w.heap.size + 1) ?_ ?_ HB5.out ?_ ?_);(rfl);(rfl);(rfl)))
     refine ret3 rfl (by rfl) rfl rfl (setRow_heap _ _ _ _ _ _ HB5.out) ?_
     exact ⟨rfl,grown_setRow HG5.out _ (by omega) _⟩
   ·have e1:decide (15 < x)=true:=decide_eq_true (by omega)
    rw [if_neg (by simp;omega)]
    clear h0 h1
    go_enter Tryz.func78,Tryz.ntmps78
    go_wp2_with (first
     | ((with_reducible refine load_en _ _ _ _ _ w.heap.size ?_ HA.out ?_);(rfl))
     | (go_at_call 105;((with_reducible refine (HM.out _).mono ?_);rintro e w5 ⟨rfl,hg5⟩;have HB5:=qh (row_grown HB.out hg5);have HG5:=qh (grown_trans HG0.out hg5);clear hg5))
     | ((with_reducible refine store_en 0 0 _ _ _ _ (w.heap.size + 1) ?_ ?_ HB5.out ?_ ?_);(rfl);(rfl);(rfl)))
    refine ret3 rfl (by rfl) rfl rfl (setRow_heap _ _ _ _ _ _ HB5.out) ?_
    exact ⟨rfl,grown_setRow HG5.out _ (by omega) _⟩
  ·have e0:decide (x < 0)=true:=decide_eq_true (by omega)
   rw [if_neg (by simp;omega)]
   clear h0
   go_enter Tryz.func78,Tryz.ntmps78
   go_wp2_with (first
    | ((with_reducible refine load_en _ _ _ _ _ w.heap.size ?_ HA.out ?_);(rfl))
    | (go_at_call 105;((with_reducible refine (HM.out _).mono ?_);rintro e w5 ⟨rfl,hg5⟩;have HB5:=qh (row_grown HB.out hg5);have HG5:=qh (grown_trans HG0.out hg5);clear hg5))
    | ((with_reducible refine store_en 0 0 _ _ _ _ (w.heap.size + 1) ?_ ?_ HB5.out ?_ ?_);(rfl);(rfl);(rfl)))
   refine ret3 rfl (by rfl) rfl rfl (setRow_heap _ _ _ _ _ _ HB5.out) ?_
   exact ⟨rfl,grown_setRow HG5.out _ (by omega) _⟩
end Go.Proofs.YtenhdijbcdkfbaaGreatDoor.en
