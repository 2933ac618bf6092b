/-GTm2-/
import Derived.Test.YtockbaekcbeenaaGreatDoorMkHd1
import Derived.WalkKit
import Derived.Test.YtockbaekcbeenaaGreatDoorMkGTm1
import Derived.Deep.RegionLaw
set_option linter.unusedVariables false
set_option linter.unusedSimpArgs false
set_option maxRecDepth 100000
set_option maxRecDepth 200000
set_option maxHeartbeats 1000000
namespace Go.Proofs.YtockbaekcbeenaaGreatDoor
open Go.Proofs.Tryz
theorem I5 {α:Type}:∀ (a:Ask α) (w:World),w.drawn≤(w.ask a).2.drawn
 | .done a,w=>Nat.le_refl _
 | .ask what range k,w=>by
  unfold World.ask
  simp only
  split
  · exact I5 _ _
  · exact Nat.le_trans (Nat.le_succ _) (I5 (k _) { w with drawn:=w.drawn+1 })
theorem ZJ (w:World) (c:Sys):w.drawn≤(w.sys c).2.drawn:=by unfold World.sys;have h:=I5 (Kernel.perform c w.os) w;split;{exact Nat.le_refl _};{rename_i r os w' hne he;rw [he] at h;exact h}
theorem ZK {p:Program} {w w':World} {t a:Addr} {u:TypeId} {v:Value} {b:Bool} {l:List Addr} (h:w.viewStore p t u a v b=.ok (w',l)):w.drawn=w'.drawn:=by
 unfold World.viewStore at h;simp only [bind,Except.bind,pure,Except.pure] at h;repeat' (split at h)
 all_goals first
  | cases h;done
  | (cases h;rfl)
  | skip
theorem ZL {p:Program} {w w':World} {a:Addr} {v:Value} {b:Bool} {l:List Addr} (h:w.farStore p a v b=.ok (w',l)):w.drawn≤w'.drawn:=by unfold World.farStore at h;split at h;{split at h;{rename_i r hr;cases h;exact Nat.le_of_eq (ZK hr)};{cases h}};{cases h}
theorem Po {α:Type} (P:Program):∀ (s:Sem α) (w:World) (a:α) (w':World),s.run P w=.ok a w'→w.drawn≤w'.drawn:=by
 intro s;induction s with
 | pure a=>intro w b w' h;simp only [Sem.run] at h;cases h;exact Nat.le_refl _
 | load m a k ih=>intro w b w' h;simp only [Sem.run] at h;split at h;{exact ih _ _ _ _ h};{split at h;{exact ih _ _ _ _ h};{cases h}}
 | store m a v k ih=>
  intro w b w' h;cases v with
  | agg fs=>simp only [Sem.run] at h;cases h
  | tuple fs=>simp only [Sem.run] at h;cases h
  | _=>simp only [Sem.run] at h;split at h;{split at h;{cases h};{have:=ih _ _ _ h;exact this}};{split at h;{rename_i hs;exact Nat.le_trans (ZL hs) (ih _ _ _ h)};{cases h}}
 | new o k ih=>intro w b w' h;simp only [Sem.run] at h;have:=ih _ _ _ _ h;exact this
 | shape r k ih=>intro w b w' h;simp only [Sem.run] at h;have:=ih _ _ _ _ h;exact this
 | freeze a n k ih=>
  intro w b w' h;simp only [Sem.run] at h;have:=ih _ _ _ h;have e:(w.freeze a n).drawn=w.drawn:=by unfold World.freeze;split <;> rfl
  rw [←e];exact this
 | frozen a k ih=>intro w b w' h;simp only [Sem.run] at h;have:=ih _ _ _ _ h;exact this
 | getObj r k ih=>intro w b w' h;simp only [Sem.run] at h;split at h;{cases h};{exact ih _ _ _ _ h};{cases h}
 | setObj r o k ih=>intro w b w' h;simp only [Sem.run] at h;split at h;{cases h};{have:=ih _ _ _ h;exact this};{cases h}
 | choose q k ih=>intro w b w' h;simp only [Sem.run] at h;split at h;{exact ih _ _ _ _ h};{exact Nat.le_trans (Nat.le_succ _) (ih _ _ _ _ h)}
 | sys c k ih=>intro w b w' h;simp only [Sem.run] at h;exact Nat.le_trans (ZJ w c) (ih _ _ _ _ h)
 | program k ih=>intro w b w' h;simp only [Sem.run] at h;exact ih _ _ _ _ h
 | mark m k ih=>intro w b w' h;simp only [Sem.run] at h;exact ih _ _ _ h
 | halt e=>intro w b w' h;simp only [Sem.run] at h;cases h
open Go.ChangeShapes Go.WideShapes Go.ChangeAt Go.RowKit
theorem Tryz.info5:(prog.info? 5).map (fun i=>(i.zero,i.size,i.bytes))=some (some (.int .u8 0),1,1):=aF
def fO (c:UInt8):Value:=.int .u8 (c.toNat:Nat)
theorem Ar {w:World} {P:Program} {ops:Array Oper} {rest:List Oper} {o:Oper} {a:Act} {Q:Exit→Act→World→Prop} (hgd:o.guard=none) (s x:Operand) (t:TypeId)
  (ho:o.op=.call { callee:=.builtin .append,args:=#[s,x],argTypes:=#[t,t] })
  (base:Nat) (e:TypeId) (i:TypeInfo) (z:Value) (bytes:Nat) (ht:P.underlying t=some (.slice e)) (hi:P.info? e=some i) (hz:i.zero=some z)
  (hsize:i.size=1) (hby:i.bytes=bytes) (hzs:z.cells.size=1)
  (v:Value) (n:Nat) (xs:List Value) (us:List Value) (m:Nat) (hm:m=us.length) (W:World) (hw:w=W.alloc (.cells us.toArray e)) (hs:a.eval s=v) (hown:W.ownsRow base e 1 v n xs)
  (H:Nat) (hH:W.heap.size=H) (hx:a.eval x=.slice (some ⟨H,0,none⟩) m m) (h1:∀ u∈us,u.oneCell'=true)
  (h63:n+m≤maxLen) (hbytes:(n+m)*bytes≤140737488355328) (hbase:base≤W.heap.size)
  (h:∀ v' w',w'.ownsRow base e 1 v' (n+m) (xs++us)→W.grownBy w' v.ownBlock→Moved W v v'→W.drawn≤w'.drawn→wpList P ops Q rest (a.put o.dst v') w'):wpList P ops Q (o::rest) a w:=by
 subst hw;subst hm;subst hH;have hs1:(W.alloc (.cells us.toArray e)).heap.size=W.heap.size+1:=aH;refine wpList_plain hgd fun K hK=>?_;obtain ⟨v',w',hr,h2,h3,h4⟩:=Dk (P:=P) (w:=W.alloc (.cells us.toArray e)) base t o.type e i z 1 bytes ht hi hz hsize hby hzs aL v n xs (hown.alloc _) ⟨W.heap.size,0,none⟩ us.length us.length us aH (by intro j u' hu;rw [lG rfl,Nat.zero_add,kK];simpa using hu) h1 h63 hbytes ay;have hd:=Po P _ _ _ _ hr;have hk:=h v' w' h2 ⟨h3.os,h3.tape,h3.output,by have:=h3.size;omega,fun k hk hne=>by rw [h3.block k ay hne,Below.heap_alloc _ _ _ hk]⟩ (by
  rcases h4 with c | ⟨k,c,d⟩;{exact Or.inl c}
  · exact Or.inr ⟨k,c,ay⟩) hd
 unfold Oper.wp execOp;simp only [ho,resolve,invoke,builtin,Sem.run_bind,Sem.run_pure,Result.andThen_ok,List.map_toArray,List.map_cons,List.map_nil,hs,hx,hr];exact hK _ _ hk
theorem ZM {w:World} {P:Program} {ops:Array Oper} {rest:List Oper} {o:Oper} {a:Act} {Q:Exit→Act→World→Prop} (hgd:o.guard=none) (s x:Operand) (t:TypeId)
  (ho:o.op=.call { callee:=.builtin .append,args:=#[s,x],argTypes:=#[t,t] })
  (base:Nat) (e:TypeId) (i:TypeInfo) (z:Value) (bytes:Nat) (ht:P.underlying t=some (.slice e)) (hi:P.info? e=some i) (hz:i.zero=some z)
  (hsize:i.size=1) (hby:i.bytes=bytes) (hzs:z.cells.size=1)
  (v:Value) (n:Nat) (xs:List Value) (us:List Value) (m:Nat) (hm:m=us.length) (W:World) (hw:w=W.alloc (.cells us.toArray e)) (hs:a.eval s=v) (hown:W.ownsRow base e 1 v n xs)
  (H:Nat) (hH:W.heap.size=H) (hx:a.eval x=.slice (some ⟨H,0,none⟩) m m) (h1:∀ u∈us,u.oneCell'=true)
  (h63:n+m≤maxLen) (hbytes:(n+m)*bytes≤140737488355328) (hbase:base≤W.heap.size)
  (h:∀ v' w',w'.ownsRow base e 1 v' (n+m) (xs++us)→W.grownBy w' v.ownBlock→Moved W v v'→wpList P ops Q rest (a.put o.dst v') w'):wpList P ops Q (o::rest) a w:=
 Ar hgd s x t ho base e i z bytes ht hi hz hsize hby hzs v n xs us m hm W hw hs hown H hH hx h1 h63 hbytes hbase fun v' w' a b c _=>h v' w' a b c
theorem Pp {w:World} {P:Program} {ops:Array Oper} {o:Oper} {a:Act} {K:Act→World→Prop} {Q:Exit→Act→World→Prop} {E:Prop} (hgd:o.guard=none) (s x:Operand) (t:TypeId)
  (ho:o.op=.call { callee:=.builtin .append,args:=#[s,x],argTypes:=#[t,t] })
  (base:Nat) (e:TypeId) (i:TypeInfo) (z:Value) (bytes:Nat) (ht:P.underlying t=some (.slice e)) (hi:P.info? e=some i) (hz:i.zero=some z)
  (hsize:i.size=1) (hby:i.bytes=bytes) (hzs:z.cells.size=1)
  (v:Value) (n:Nat) (xs:List Value) (us:List Value) (m:Nat) (hm:m=us.length) (W:World) (hw:w=(W.alloc (.cells us.toArray e)).drew) (hs:a.eval s=v) (hown:W.ownsRow base e 1 v n xs)
  (H:Nat) (hH:W.heap.size=H) (hx:a.eval x=.slice (some ⟨H,0,none⟩) m m) (h1:∀ u∈us,u.oneCell'=true)
  (h63:n+m≤maxLen) (hbytes:(n+m)*bytes≤140737488355328) (hbase:base≤W.heap.size)
  (h:∀ v' w',w'.ownsRow base e 1 v' (n+m) (xs++us)→W.grownBy w' v.ownBlock→Moved W v v'→W.drawn≤w'.drawn→K (a.put o.dst v') w') :
  if Region.wanted o (yielded ops a.tmps)=true then Oper.wp P o a w K Q else E:=by
 have hwd:Region.wanted o (yielded ops a.tmps)=true:=by simp [Region.wanted,hgd]
 rw [if_pos hwd];subst hw;subst hm;subst hH;obtain ⟨v',w',hr,h2,h3,h4⟩:=Dk (P:=P) (w:=(W.alloc (.cells us.toArray e)).drew) base t o.type e i z 1 bytes ht hi hz hsize hby hzs aL v n xs (hown.alloc _) ⟨W.heap.size,0,none⟩ us.length us.length us aH (by intro j u' hu;rw [lG rfl,Nat.zero_add];show (W.alloc (Obj.cells us.toArray e)).cell? ⟨W.heap.size,j,none⟩=some u';rw [kK];simpa using hu) h1 h63 hbytes (by simp;omega);have hd:=Po P _ _ _ _ hr;have hk:=h v' w' h2 ⟨h3.os,h3.tape,h3.output,by have:=h3.size;simp at this;omega,fun k hk hne=>by rw [h3.block k (by simp;omega) hne];show (W.alloc (Obj.cells us.toArray e)).heap[k]?=_;rw [Below.heap_alloc _ _ _ hk]⟩ (by
  rcases h4 with c | ⟨k,c,d⟩;{exact Or.inl c}
  · exact Or.inr ⟨k,c,by simp at d;omega⟩) (Nat.le_trans (Nat.le_succ _) hd)
 unfold Oper.wp execOp;simp only [ho,resolve,invoke,builtin,Sem.run_bind,Sem.run_pure,Result.andThen_ok,List.map_toArray,List.map_cons,List.map_nil,hs,hx,hr];exact hk
def Eo (W:World) (base:Nat) (v:Value) (n:Nat) (xs:List Value) (c:UInt8) (e:Ending) (W':World):Prop:=
 ∃ v',e=.returned v'∧W'.ownsRow base 5 1 v' (n+(Tm.esc c).length) (xs++(Tm.esc c).map fO)∧W.grownBy W' v.ownBlock∧Moved W v v'∧W.drawn≤W'.drawn
theorem Pq (k:Nat) (h:k<16) (p:k<(⟨#[48,49,50,51,52,53,54,55,56,57,65,66,67,68,69,70]⟩:ByteArray).size):(⟨#[48,49,50,51,52,53,54,55,56,57,65,66,67,68,69,70]⟩:ByteArray)[k]=Tm.gU k:=by have:∀ k:Fin 16,(⟨#[48,49,50,51,52,53,54,55,56,57,65,66,67,68,69,70]⟩:ByteArray)[k.val]=Tm.gU k.val:=aL;exact this ⟨k,h⟩
theorem vN (c d:UInt8) (h:(c=34∧d=34)∨(c=92∧d=92)∨(c=10∧d=110)∨(c=13∧d=114)∨(c=9∧d=116)∨(c=8∧d=98)∨(c=12∧d=102)) (a:Option Addr) (n cap:Nat) (xs:List Value) (base:Nat) (W:World) (hown:W.ownsRow base 5 1 (.slice a n cap) n xs) (hn:n+2≤100000000000) (hb:base≤W.heap.size) :
  Calls prog 205 #[.slice a n cap,.int .u8 (c.toNat:Nat)] W (Eo W base (.slice a n cap) n xs c):=by
 obtain ⟨i0,hi,hz0,hz1,hz2⟩:=info_parts Tryz.info5;have HO:=aj hown;clear hown;rcases h with ⟨rfl,rfl⟩ | ⟨rfl,rfl⟩ | ⟨rfl,rfl⟩ | ⟨rfl,rfl⟩ | ⟨rfl,rfl⟩ | ⟨rfl,rfl⟩ | ⟨rfl,rfl⟩;all_goals
  go_enter func205,ntmps205
  go_wp2_with (at_builtin;refine Ar rfl _ _ 71 rfl base 5 i0 _ 1 underlying71 hi hz0 hz1 hz2 rfl (.slice a n cap) n xs _ 2 (by rfl) W rfl rfl HO.out W.heap.size rfl rfl ?one ?b1 ?b2 hb ?_)
  case one=>intro u hu;simp at hu;rcases hu with rfl | rfl <;> rfl
  case b1=>unfold maxLen;omega
  case b2=>omega
  intro v1 w1 hown hgr hmv hdr
  have O1:=aj hown
  have ou:=aj (And.intro hmv hdr)
  clear hown hmv hdr
  go_wp2
  go_ret
  exact ⟨_,rfl,O1.out,hgr,ou.out⟩
def vO (c:UInt8):Prop:=c.toNat≠34∧c.toNat≠92∧c.toNat≠10∧c.toNat≠13∧c.toNat≠9∧c.toNat≠8∧c.toNat≠12
theorem Pv (c:UInt8) (h:vO c) (hl:c.toNat<32∨c.toNat=127):Tm.esc c=[92,117,48,48,Tm.gU (c.toNat / 16),Tm.gU (c.toNat % 16)]:=by obtain ⟨h1,h2,h3,h4,h5,h6,h7⟩:=h;have e:∀ d:UInt8,c.toNat≠d.toNat→c≠d:=fun d hn he=>hn (by rw [he]);unfold Tm.esc;rw [if_neg (by rintro (h | h);exact e 34 h1 h;exact e 92 h2 h),if_neg (e 10 h3),if_neg (e 13 h4),if_neg (e 9 h5),if_neg (e 8 h6),if_neg (e 12 h7),if_pos];rcases hl with h | h;{exact .inl h};{exact .inr (UInt8.toNat_inj.1 h)}
theorem Pw (c:UInt8) (h:vO c) (hl:32≤c.toNat∧c.toNat≠127):Tm.esc c=[c]:=by obtain ⟨h1,h2,h3,h4,h5,h6,h7⟩:=h;have e:∀ d:UInt8,c.toNat≠d.toNat→c≠d:=fun d hn he=>hn (by rw [he]);exact Tm.Nc c hl.1 (e 127 hl.2) (e 34 h1) (e 92 h2)
theorem ZN (c:UInt8) (h:vO c) (hl:32≤c.toNat∧c.toNat≠127) (a:Option Addr) (n cap:Nat) (xs:List Value) (base:Nat) (W:World) (hown:W.ownsRow base 5 1 (.slice a n cap) n xs) (hn:n+2≤100000000000) (hb:base≤W.heap.size) :
  Calls prog 205 #[.slice a n cap,.int .u8 (c.toNat:Nat)] W (Eo W base (.slice a n cap) n xs c):=by
 obtain ⟨i0,hi,hz0,hz1,hz2⟩:=info_parts Tryz.info5;have HO:=aj hown;have HS:=aj (Pw c h hl);obtain ⟨h1,h2,h3,h4,h5,h6,h7⟩:=h;obtain ⟨h8,h9⟩:=hl;have b1:((c.toNat:Int)==34)=false:=beq_eq_false_iff_ne.2 ay;have b2:((c.toNat:Int)==92)=false:=beq_eq_false_iff_ne.2 ay;have b3:((c.toNat:Int)==10)=false:=beq_eq_false_iff_ne.2 ay;have b4:((c.toNat:Int)==13)=false:=beq_eq_false_iff_ne.2 ay;have b5:((c.toNat:Int)==9)=false:=beq_eq_false_iff_ne.2 ay;have b6:((c.toNat:Int)==8)=false:=beq_eq_false_iff_ne.2 ay;have b7:((c.toNat:Int)==12)=false:=beq_eq_false_iff_ne.2 ay;have b9:((c.toNat:Int)==127)=false:=beq_eq_false_iff_ne.2 ay;clear hown h1 h2 h3 h4 h5 h6 h7 h9;go_enter func205,ntmps205;go_wp2_with (at_builtin;refine Ar rfl _ _ 71 rfl base 5 i0 _ 1 underlying71 hi hz0 hz1 hz2 rfl (.slice a n cap) n xs [fO c] 1 (by rfl) W rfl rfl HO.out W.heap.size rfl rfl ?one ?b1 ?b2 hb ?_)
 case one=>intro u hu;simp at hu;rw [hu];rfl
 case b1=>unfold maxLen;omega
 case b2=>omega
 intro v1 w1 hown hgr hmv hdr;have O1:=aj hown;have ou:=aj (And.intro hmv hdr);clear hown hmv hdr;go_wp2;go_ret;exact ⟨_,rfl,by rw [HS.out];exact O1.out,hgr,ou.out⟩
theorem ZO (c:UInt8) (h:vO c) (hl:c.toNat<32∨c.toNat=127) (a:Option Addr) (n cap:Nat) (xs:List Value) (base:Nat) (W:World) (hown:W.ownsRow base 5 1 (.slice a n cap) n xs) (hn:n+6≤100000000000) (hb:base≤W.heap.size) :
  Calls prog 205 #[.slice a n cap,.int .u8 (c.toNat:Nat)] W (Eo W base (.slice a n cap) n xs c):=by
 obtain ⟨i0,hi,hz0,hz1,hz2⟩:=info_parts Tryz.info5;have HO:=aj hown;have HS:=aj (Pv c h hl);obtain ⟨h1,h2,h3,h4,h5,h6,h7⟩:=h;have b1:((c.toNat:Int)==34)=false:=beq_eq_false_iff_ne.2 ay;have b2:((c.toNat:Int)==92)=false:=beq_eq_false_iff_ne.2 ay;have b3:((c.toNat:Int)==10)=false:=beq_eq_false_iff_ne.2 ay;have b4:((c.toNat:Int)==13)=false:=beq_eq_false_iff_ne.2 ay;have b5:((c.toNat:Int)==9)=false:=beq_eq_false_iff_ne.2 ay;have b6:((c.toNat:Int)==8)=false:=beq_eq_false_iff_ne.2 ay;have b7:((c.toNat:Int)==12)=false:=beq_eq_false_iff_ne.2 ay;have ahw:c.toNat<128:=ay;clear hown h1 h2 h3 h4 h5 h6 h7;have hand:bits BinOp.and IntKind.u8 (c.toNat:Int) 15=((c.toNat % 16:Nat):Int):=by have:=u8_and_nat c.toNat 15 ay ay;rw [show (15:Int)=((15:Nat):Int) from rfl,this,show c.toNat &&& 15=c.toNat % 16 from Nat.and_two_pow_sub_one_eq_mod c.toNat 4]
 have hsh:(c.toNat:Int) / 16=((c.toNat / 16:Nat):Int):=ay;have hq:c.toNat / 16<16:=ay;have hr:c.toNat % 16<16:=ay;obtain ⟨k1,hk1⟩:=aC (c.toNat / 16);obtain ⟨k2,hk2⟩:=aC (c.toNat % 16);rw [←hk1] at hsh hq HS;rw [←hk2] at hand hr HS;have hq1:=fun p=>Pq k1 hq p;have hr1:=fun p=>Pq k2 hr p;have hqz:(k1:Int)<16:=ay;have hrz:(k2:Int)<16:=ay;have ZP:(0:Int)≤(k1:Int):=ay;have ZQ:(0:Int)≤(k2:Int):=ay;clear hk1 hk2;rcases hl with h8 | h8
 · go_enter func205,ntmps205;go_wp2;go_region_law ((refine Pp (by rfl) _ _ 71 (by rfl) base 5 i0 _ 1 underlying71 hi hz0 hz1 hz2 rfl (.slice a n cap) n xs [.int .u8 92,.int .u8 117,.int .u8 48,.int .u8 48,fO (Tm.gU k1),fO (Tm.gU k2)] 6 (by rfl) _ (by rfl) (by rfl) HO.out _ (by rfl) (by rfl) (by intro u hu;simp at hu;rcases hu with rfl | rfl | rfl | rfl | rfl | rfl <;> rfl) (by unfold maxLen;omega) ay hb ?_;intro v1 w1 hown hgr hmv hdr))
   all_goals
    have O1:=aj hown
    have ou:=aj (And.intro hmv hdr)
    clear hown hmv hdr
    go_wp2
    go_ret
    exact ⟨_,rfl,by rw [HS.out];exact O1.out,hgr,ou.out⟩
 · have b10:((c.toNat:Int)==127)=true:=beq_iff_eq.2 ay;have h9:32≤c.toNat:=ay;clear h8;go_enter func205,ntmps205;go_wp2;go_region_law ((refine Pp (by rfl) _ _ 71 (by rfl) base 5 i0 _ 1 underlying71 hi hz0 hz1 hz2 rfl (.slice a n cap) n xs [.int .u8 92,.int .u8 117,.int .u8 48,.int .u8 48,fO (Tm.gU k1),fO (Tm.gU k2)] 6 (by rfl) _ (by rfl) (by rfl) HO.out _ (by rfl) (by rfl) (by intro u hu;simp at hu;rcases hu with rfl | rfl | rfl | rfl | rfl | rfl <;> rfl) (by unfold maxLen;omega) ay hb ?_;intro v1 w1 hown hgr hmv hdr))
   all_goals
    have O1:=aj hown
    have ou:=aj (And.intro hmv hdr)
    clear hown hmv hdr
    go_wp2
    go_ret
    exact ⟨_,rfl,by rw [HS.out];exact O1.out,hgr,ou.out⟩
theorem ZR (c:UInt8) (v:Value) (n:Nat) (xs:List Value) (base:Nat) (W:World) (hown:W.ownsRow base 5 1 v n xs) (hn:n+6≤100000000000) (hb:base≤W.heap.size) :
  Calls prog 205 #[v,.int .u8 (c.toNat:Nat)] W (Eo W base v n xs c):=by obtain ⟨a,cap,rfl,_,_,_,_⟩:=Dj hown;by_cases h:vO c;{by_cases hl:c.toNat<32∨c.toNat=127;{exact ZO c h hl a n cap xs base W hown hn hb};{exact ZN c h ay a n cap xs base W hown ay hb}};{unfold vO at h;have h:c.toNat=34∨c.toNat=92∨c.toNat=10∨c.toNat=13∨c.toNat=9∨c.toNat=8∨c.toNat=12:=ay;have e:∀ d:UInt8,c.toNat=d.toNat→c=d:=fun d hd=>UInt8.toNat_inj.1 hd;rcases h with h | h | h | h | h | h | h;{obtain rfl:=e 34 h;exact vN 34 34 aH a n cap xs base W hown ay hb};{obtain rfl:=e 92 h;exact vN 92 92 aH a n cap xs base W hown ay hb};{obtain rfl:=e 10 h;exact vN 10 110 aH a n cap xs base W hown ay hb};{obtain rfl:=e 13 h;exact vN 13 114 aH a n cap xs base W hown ay hb};{obtain rfl:=e 9 h;exact vN 9 116 aH a n cap xs base W hown ay hb};{obtain rfl:=e 8 h;exact vN 8 98 aH a n cap xs base W hown ay hb};{obtain rfl:=e 12 h;exact vN 12 102 aH a n cap xs base W hown ay hb}}
theorem ZT (l:List UInt8):l.map fO=(l.map UInt8.toNat).map Ho:=by simp [fO,Ho,List.map_map,Function.comp_def]
theorem ZU (l:List UInt8):Value.string (strOf (l.map UInt8.toNat))=aA l:=by simp [strOf,aA,List.map_map,Function.comp_def]
theorem Px {w:World} {base n:Nat} {v:Value} {l:List UInt8} (h:w.ownsRow base 5 1 v n (l.map fO)) (hn:n=l.length):(convert 71 9 v).run prog w=.ok (aA l) w:=by rw [ZT] at h;have:=VZ (P:=prog) underlying71 underlying5 underlying9 w v (l.map UInt8.toNat) (dQ.own h (by simpa using hn));rw [this,ZU]
theorem Py (s:List UInt8) (k:Nat) (c:UInt8) (h:s[k]?=some c):Tm.bL (s.take (k+1))=Tm.bL (s.take k)++Tm.esc c:=by rw [List.take_add_one,h,Tm.Nb];simp [Tm.bL]
end Go.Proofs.YtockbaekcbeenaaGreatDoor
namespace Go.Proofs.YtockbaekcbeenaaGreatDoor.Tm
open Go
def enc (r:Nat):List UInt8:=(Utf8.encode (r:Int)).data.toList
def tV (r:Nat):Prop:=r<55296∨(57344≤r∧r≤1114111)
theorem ZV (r:Nat) (h:tV r):enc r =
  if r<128 then [UInt8.ofNat r] else if r<2048 then [UInt8.ofNat (192+r / 64),UInt8.ofNat (128+r % 64)]
  else if r<65536 then [UInt8.ofNat (224+r / 4096),UInt8.ofNat (128+r / 64 % 64),UInt8.ofNat (128+r % 64)]
  else [UInt8.ofNat (240+r / 262144),UInt8.ofNat (128+r / 4096 % 64),UInt8.ofNat (128+r / 64 % 64),UInt8.ofNat (128+r % 64)]:=by
 have hv:Utf8.valid (r:Int)=true:=by unfold Utf8.valid;unfold tV at h;simp only [Bool.or_eq_true,Bool.and_eq_true,decide_eq_true_eq];omega
 unfold enc Utf8.encode;simp only [hv,if_true,Int.toNat_natCast];by_cases h1:r<128;{rw [if_pos h1,if_pos h1]};rw [if_neg h1,if_neg h1];by_cases h2:r<2048;{rw [if_pos h2,if_pos h2]};rw [if_neg h2,if_neg h2];by_cases h3:r<65536;{rw [if_pos h3,if_pos h3]};rw [if_neg h3,if_neg h3]
theorem qG (n:Nat) (h:n<256):(UInt8.ofNat n).toNat=n:=by simp;omega
end Go.Proofs.YtockbaekcbeenaaGreatDoor.Tm
namespace Go.Proofs.YtockbaekcbeenaaGreatDoor
open Go.Proofs.Tryz
open Go.ChangeShapes Go.WideShapes Go.ChangeAt Go.RowKit
theorem Pz (s:List UInt8) (W:World) (hs:s.length≤1000000000) :
  Calls prog 164 #[aA s] W fun e W'=>e=.returned (aA (34::(Tm.bL s++[34])))∧Below W.heap.size W W'∧W.drawn≤W'.drawn:=by
 obtain ⟨i0,hi,hz0,hz1,hz2⟩:=info_parts Tryz.info5;have mk1:(Instr.makeSlice 71 (.int .i64 0) (.int .i64 ((s.length:Int)+2))).run prog W=.ok (.slice (some ⟨W.heap.size,0,none⟩) 0 (s.length+2)) (W.alloc (.cells (madeCells #[.int .u8 0] (s.length+2)) 5)):=by have h:=run_make W 71 5 i0 _ underlying71 hi hz0 .i64 .i64 0 ((s.length:Int)+2) ay ay (by rw [hz2];omega) ay;rw [h,hz1,show ((s.length:Int)+2).toNat=s.length+2 by omega,Nat.mul_one];rfl
 have HM:=aj (show (madeCells #[Value.int .u8 0] (s.length+2)).size=(s.length+2)*1 by rw [size_madeCells,Nat.mul_one]);go_enter func164,ntmps164;go_wp2_with (at_builtin;refine Ar rfl (.tmp 9) (.tmp 10) 71 rfl W.heap.size 5 i0 _ 1 underlying71 hi hz0 hz1 hz2 rfl _ 0 [] [fO 34] 1 (by rfl) _ rfl rfl ?own (W.heap.size+1) ?hh rfl ?one ?b1 ?b2 ?base ?_)
 case own=>exact World.ownsRow_made W _ _ aG (by unfold maxLen;omega) HM.out
 case hh=>simp
 case one=>intro u hu;simp at hu;rw [hu];rfl
 case b1=>unfold maxLen;omega
 case b2=>omega
 case base=>simp
 intro v1 w1 hown hgr _ PD;have HD1:=aj (show W.drawn≤w1.drawn from PD);clear PD;have hb1:Below W.heap.size W w1:=((Below.refl W.heap.size W).alloc aG _).grown hgr aH (fun k hk=>by simp only [Value.ownBlock,Option.some.injEq] at hk;omega);have O1:=aj (show w1.ownsRow W.heap.size 5 1 v1 (1+(Tm.bL (s.take 0)).length) ((34::Tm.bL (s.take 0)).map fO) from hown);have HB1:=aj hb1;clear hown hgr hb1 mk1;go_wp2;go_loopw [14,3,4] (fun Ep s3 s4 wr=>∃ i:Nat,i≤s.length∧Ep=.int .i64 i∧Hid (wr.ownsRow W.heap.size 5 1 s3 (1+(Tm.bL (s.take i)).length) ((34::Tm.bL (s.take i)).map fO))∧Hid (Below W.heap.size W wr)∧Hid (W.drawn≤wr.drawn)) (fun Ep _ _ _=>s.length-(intOf Ep).toNat)
 case atStart=>exact ⟨0,ay,rfl,O1,HB1,HD1⟩
 case round=>
  obtain ⟨i,hi1,rfl,OO,HB,HD⟩:=hrel;have ow:=HB.out.size;have hle:=Tm.n_ (s.take i);rw [List.length_take] at hle;by_cases hlt:i<s.length
  · obtain ⟨c,hc⟩:∃ c,s[i]?=some c:=⟨_,List.getElem?_eq_getElem hlt⟩;have hcc:=fun q=>nY s i c hc q;have HS:=aj (Py s i c hc);have ES:=aj (ZR c u3 _ _ W.heap.size wr OO.out ay ow);clear hc hle;(go_wp2_with (go_at_call 205;refine ES.out.mono ?_;rintro e w2 ⟨v2,rfl,O2,PE,hmv⟩));have hb2:Below W.heap.size W w2:=HB.out.grown PE ow (fun g hg=>(OO.out.lt g hg).1);have O3:=aj (show w2.ownsRow W.heap.size 5 1 v2 (1+(Tm.bL (s.take (i+1))).length) ((34::Tm.bL (s.take (i+1))).map fO) by rw [HS.out,List.length_append,←Nat.add_assoc,←List.cons_append,List.map_append];exact O2);have HB3:=aj hb2;have HD3:=aj (show W.drawn≤w2.drawn from Nat.le_trans HD.out hmv.2);clear O2 PE hmv hb2;go_roundw
    (case rel=>exact ⟨i+1,ay,aN,O3,HB3,HD3⟩);case measure=>simp [intOf];omega
  {have hnn:i=s.length:=ay;have O4:=aj (show wr.ownsRow W.heap.size 5 1 u3 (1+(Tm.bL s).length) ((34::Tm.bL s).map fO) by have h:=OO.out;rw [hnn,List.take_length] at h;exact h);have hle2:=Tm.n_ s;clear OO;have CV:=aj (fun (w:World) (v:Value) (h:w.ownsRow W.heap.size 5 1 v (1+(Tm.bL s).length+1) ((34::(Tm.bL s++[34])).map fO))=>Px h (by simp;omega));(go_wp2_with (at_builtin;refine Ar rfl (.tmp 23) (.tmp 24) 71 rfl W.heap.size 5 i0 _ 1 underlying71 hi hz0 hz1 hz2 rfl u3 _ _ [fO 34] 1 (by rfl) wr rfl rfl O4.out wr.heap.size rfl rfl ?one ?b1 ?b2 ?base ?_));(case one=>intro u hu;simp at hu;rw [hu];rfl);(case b1=>unfold maxLen;omega);(case b2=>omega);(case base=>exact ow);intro v5 w5 hown hgr5 _ PG;have HD5:=aj (show W.drawn≤w5.drawn from Nat.le_trans HD.out PG);clear PG;have hb5:Below W.heap.size W w5:=HB.out.grown hgr5 ow (fun g hg=>(O4.out.lt g hg).1);have cv:=CV.out w5 v5 (by simpa using hown);have aQ:=aj hb5;clear hown hgr5 hb5 hle hle2;go_wp2;go_ret;exact ⟨rfl,aQ.out,HD5.out⟩}
theorem ZW (s:List UInt8) (W:World) (hs:s.length≤1000000000) :
  Calls prog 164 #[aA s] W fun e W'=>e=.returned (aA (34::(Tm.bL s++[34])))∧Below W.heap.size W W':=
 (Pz s W hs).mono fun _ _ h=>⟨h.1,h.2.1⟩
end Go.Proofs.YtockbaekcbeenaaGreatDoor
