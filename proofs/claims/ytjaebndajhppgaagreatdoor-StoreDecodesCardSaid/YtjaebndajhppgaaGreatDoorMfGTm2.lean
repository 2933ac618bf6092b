/-GTm2-/
import Derived.Test.YtjaebndajhppgaaGreatDoorMfHd1
import Derived.WalkKit
import Derived.Test.YtjaebndajhppgaaGreatDoorMfGTm1
import Derived.Deep.RegionLaw
set_option linter.unusedVariables false
set_option linter.unusedSimpArgs false
set_option maxRecDepth 100000
set_option maxRecDepth 200000
set_option maxHeartbeats 1000000
namespace Go.Proofs.YtjaebndajhppgaaGreatDoor
open Go.Proofs.Tryz
theorem F3 {α:Type}:∀ (a:Ask α) (w:World),w.drawn≤(w.ask a).2.drawn
 | .done a,w=>Nat.le_refl _
 | .ask what range k,w=>by
  unfold World.ask
  simp only
  split
  · exact F3 _ _
  · exact Nat.le_trans (Nat.le_succ _) (F3 (k _) { w with drawn:=w.drawn+1 })
theorem XY (w:World) (c:Sys):w.drawn≤(w.sys c).2.drawn:=by unfold World.sys;have h:=F3 (Kernel.perform c w.os) w;split;{exact Nat.le_refl _};{rename_i r os w' hne he;rw [he] at h;exact h}
theorem XZ {p:Program} {w w':World} {t a:Addr} {u:TypeId} {v:Value} {b:Bool} {l:List Addr} (h:w.viewStore p t u a v b=.ok (w',l)):w.drawn=w'.drawn:=by
 unfold World.viewStore at h;simp only [bind,Except.bind,pure,Except.pure] at h;repeat' (split at h)
 all_goals first
  | cases h;done
  | (cases h;rfl)
  | skip
theorem X0 {p:Program} {w w':World} {a:Addr} {v:Value} {b:Bool} {l:List Addr} (h:w.farStore p a v b=.ok (w',l)):w.drawn≤w'.drawn:=by unfold World.farStore at h;split at h;{split at h;{rename_i r hr;cases h;exact Nat.le_of_eq (XZ hr)};{cases h}};{cases h}
theorem ML {α:Type} (P:Program):∀ (s:Sem α) (w:World) (a:α) (w':World),s.run P w=.ok a w'→w.drawn≤w'.drawn:=by
 intro s;induction s with
 | pure a=>intro w b w' h;simp only [Sem.run] at h;cases h;exact Nat.le_refl _
 | load m a k ih=>intro w b w' h;simp only [Sem.run] at h;split at h;{exact ih _ _ _ _ h};{split at h;{exact ih _ _ _ _ h};{cases h}}
 | store m a v k ih=>
  intro w b w' h;cases v with
  | agg fs=>simp only [Sem.run] at h;cases h
  | tuple fs=>simp only [Sem.run] at h;cases h
  | _=>simp only [Sem.run] at h;split at h;{split at h;{cases h};{have:=ih _ _ _ h;exact this}};{split at h;{rename_i hs;exact Nat.le_trans (X0 hs) (ih _ _ _ h)};{cases h}}
 | new o k ih=>intro w b w' h;simp only [Sem.run] at h;have:=ih _ _ _ _ h;exact this
 | shape r k ih=>intro w b w' h;simp only [Sem.run] at h;have:=ih _ _ _ _ h;exact this
 | freeze a n k ih=>
  intro w b w' h;simp only [Sem.run] at h;have:=ih _ _ _ h;have e:(w.freeze a n).drawn=w.drawn:=by unfold World.freeze;split <;> rfl
  rw [←e];exact this
 | frozen a k ih=>intro w b w' h;simp only [Sem.run] at h;have:=ih _ _ _ _ h;exact this
 | getObj r k ih=>intro w b w' h;simp only [Sem.run] at h;split at h;{cases h};{exact ih _ _ _ _ h};{cases h}
 | setObj r o k ih=>intro w b w' h;simp only [Sem.run] at h;split at h;{cases h};{have:=ih _ _ _ h;exact this};{cases h}
 | choose q k ih=>intro w b w' h;simp only [Sem.run] at h;split at h;{exact ih _ _ _ _ h};{exact Nat.le_trans (Nat.le_succ _) (ih _ _ _ _ h)}
 | sys c k ih=>intro w b w' h;simp only [Sem.run] at h;exact Nat.le_trans (XY w c) (ih _ _ _ _ h)
 | program k ih=>intro w b w' h;simp only [Sem.run] at h;exact ih _ _ _ _ h
 | mark m k ih=>intro w b w' h;simp only [Sem.run] at h;exact ih _ _ _ h
 | halt e=>intro w b w' h;simp only [Sem.run] at h;cases h
open Go.ChangeShapes Go.WideShapes Go.ChangeAt Go.RowKit
theorem Tryz.info5:(prog.info? 5).map (fun i=>(i.zero,i.size,i.bytes))=some (some (.int .u8 0),1,1):=aG
def dI (c:UInt8):Value:=.int .u8 (c.toNat:Nat)
theorem yw {w:World} {P:Program} {ops:Array Oper} {rest:List Oper} {o:Oper} {a:Act} {Q:Exit→Act→World→Prop} (hgd:o.guard=none) (s x:Operand) (t:TypeId)
  (ho:o.op=.call { callee:=.builtin .append,args:=#[s,x],argTypes:=#[t,t] })
  (base:Nat) (e:TypeId) (i:TypeInfo) (z:Value) (bytes:Nat) (ht:P.underlying t=some (.slice e)) (hi:P.info? e=some i) (hz:i.zero=some z)
  (hsize:i.size=1) (hby:i.bytes=bytes) (hzs:z.cells.size=1)
  (v:Value) (n:Nat) (xs:List Value) (us:List Value) (m:Nat) (hm:m=us.length) (W:World) (hw:w=W.alloc (.cells us.toArray e)) (hs:a.eval s=v) (hown:W.ownsRow base e 1 v n xs)
  (H:Nat) (hH:W.heap.size=H) (hx:a.eval x=.slice (some ⟨H,0,none⟩) m m) (h1:∀ u∈us,u.oneCell'=true)
  (h63:n+m≤maxLen) (hbytes:(n+m)*bytes≤140737488355328) (hbase:base≤W.heap.size)
  (h:∀ v' w',w'.ownsRow base e 1 v' (n+m) (xs++us)→W.grownBy w' v.ownBlock→Moved W v v'→W.drawn≤w'.drawn→wpList P ops Q rest (a.put o.dst v') w'):wpList P ops Q (o::rest) a w:=by
 subst hw;subst hm;subst hH;have hs1:(W.alloc (.cells us.toArray e)).heap.size=W.heap.size+1:=aI;refine wpList_plain hgd fun K hK=>?_;obtain ⟨v',w',hr,h2,h3,h4⟩:=yc (P:=P) (w:=W.alloc (.cells us.toArray e)) base t o.type e i z 1 bytes ht hi hz hsize hby hzs aL v n xs (hown.alloc _) ⟨W.heap.size,0,none⟩ us.length us.length us aI (by intro j u' hu;rw [gG rfl,Nat.zero_add,fD];simpa using hu) h1 h63 hbytes ak;have hd:=ML P _ _ _ _ hr;have hk:=h v' w' h2 ⟨h3.os,h3.tape,h3.output,by have:=h3.size;omega,fun k hk hne=>by rw [h3.block k ak hne,Below.heap_alloc _ _ _ hk]⟩ (by
  rcases h4 with c | ⟨k,c,d⟩;{exact Or.inl c}
  · exact Or.inr ⟨k,c,ak⟩) hd
 unfold Oper.wp execOp;simp only [ho,resolve,invoke,builtin,Sem.run_bind,Sem.run_pure,Result.andThen_ok,List.map_toArray,List.map_cons,List.map_nil,hs,hx,hr];exact hK _ _ hk
theorem yx {w:World} {P:Program} {ops:Array Oper} {rest:List Oper} {o:Oper} {a:Act} {Q:Exit→Act→World→Prop} (hgd:o.guard=none) (s x:Operand) (t:TypeId)
  (ho:o.op=.call { callee:=.builtin .append,args:=#[s,x],argTypes:=#[t,t] })
  (base:Nat) (e:TypeId) (i:TypeInfo) (z:Value) (bytes:Nat) (ht:P.underlying t=some (.slice e)) (hi:P.info? e=some i) (hz:i.zero=some z)
  (hsize:i.size=1) (hby:i.bytes=bytes) (hzs:z.cells.size=1)
  (v:Value) (n:Nat) (xs:List Value) (us:List Value) (m:Nat) (hm:m=us.length) (W:World) (hw:w=W.alloc (.cells us.toArray e)) (hs:a.eval s=v) (hown:W.ownsRow base e 1 v n xs)
  (H:Nat) (hH:W.heap.size=H) (hx:a.eval x=.slice (some ⟨H,0,none⟩) m m) (h1:∀ u∈us,u.oneCell'=true)
  (h63:n+m≤maxLen) (hbytes:(n+m)*bytes≤140737488355328) (hbase:base≤W.heap.size)
  (h:∀ v' w',w'.ownsRow base e 1 v' (n+m) (xs++us)→W.grownBy w' v.ownBlock→Moved W v v'→wpList P ops Q rest (a.put o.dst v') w'):wpList P ops Q (o::rest) a w:=
 yw hgd s x t ho base e i z bytes ht hi hz hsize hby hzs v n xs us m hm W hw hs hown H hH hx h1 h63 hbytes hbase fun v' w' a b c _=>h v' w' a b c
theorem MN {w:World} {P:Program} {ops:Array Oper} {o:Oper} {a:Act} {K:Act→World→Prop} {Q:Exit→Act→World→Prop} {E:Prop} (hgd:o.guard=none) (s x:Operand) (t:TypeId)
  (ho:o.op=.call { callee:=.builtin .append,args:=#[s,x],argTypes:=#[t,t] })
  (base:Nat) (e:TypeId) (i:TypeInfo) (z:Value) (bytes:Nat) (ht:P.underlying t=some (.slice e)) (hi:P.info? e=some i) (hz:i.zero=some z)
  (hsize:i.size=1) (hby:i.bytes=bytes) (hzs:z.cells.size=1)
  (v:Value) (n:Nat) (xs:List Value) (us:List Value) (m:Nat) (hm:m=us.length) (W:World) (hw:w=(W.alloc (.cells us.toArray e)).drew) (hs:a.eval s=v) (hown:W.ownsRow base e 1 v n xs)
  (H:Nat) (hH:W.heap.size=H) (hx:a.eval x=.slice (some ⟨H,0,none⟩) m m) (h1:∀ u∈us,u.oneCell'=true)
  (h63:n+m≤maxLen) (hbytes:(n+m)*bytes≤140737488355328) (hbase:base≤W.heap.size)
  (h:∀ v' w',w'.ownsRow base e 1 v' (n+m) (xs++us)→W.grownBy w' v.ownBlock→Moved W v v'→W.drawn≤w'.drawn→K (a.put o.dst v') w') :
  if Region.wanted o (yielded ops a.tmps)=true then Oper.wp P o a w K Q else E:=by
 have hwd:Region.wanted o (yielded ops a.tmps)=true:=by simp [Region.wanted,hgd]
 rw [if_pos hwd];subst hw;subst hm;subst hH;obtain ⟨v',w',hr,h2,h3,h4⟩:=yc (P:=P) (w:=(W.alloc (.cells us.toArray e)).drew) base t o.type e i z 1 bytes ht hi hz hsize hby hzs aL v n xs (hown.alloc _) ⟨W.heap.size,0,none⟩ us.length us.length us aI (by intro j u' hu;rw [gG rfl,Nat.zero_add];show (W.alloc (Obj.cells us.toArray e)).cell? ⟨W.heap.size,j,none⟩=some u';rw [fD];simpa using hu) h1 h63 hbytes (by simp;omega);have hd:=ML P _ _ _ _ hr;have hk:=h v' w' h2 ⟨h3.os,h3.tape,h3.output,by have:=h3.size;simp at this;omega,fun k hk hne=>by rw [h3.block k (by simp;omega) hne];show (W.alloc (Obj.cells us.toArray e)).heap[k]?=_;rw [Below.heap_alloc _ _ _ hk]⟩ (by
  rcases h4 with c | ⟨k,c,d⟩;{exact Or.inl c}
  · exact Or.inr ⟨k,c,by simp at d;omega⟩) (Nat.le_trans (Nat.le_succ _) hd)
 unfold Oper.wp execOp;simp only [ho,resolve,invoke,builtin,Sem.run_bind,Sem.run_pure,Result.andThen_ok,List.map_toArray,List.map_cons,List.map_nil,hs,hx,hr];exact hk
def Ci (W:World) (base:Nat) (v:Value) (n:Nat) (xs:List Value) (c:UInt8) (e:Ending) (W':World):Prop:=
 ∃ v',e=.returned v'∧W'.ownsRow base 5 1 v' (n+(Tm.esc c).length) (xs++(Tm.esc c).map dI)∧W.grownBy W' v.ownBlock∧Moved W v v'∧W.drawn≤W'.drawn
theorem MO (k:Nat) (h:k<16) (p:k<(⟨#[48,49,50,51,52,53,54,55,56,57,65,66,67,68,69,70]⟩:ByteArray).size):(⟨#[48,49,50,51,52,53,54,55,56,57,65,66,67,68,69,70]⟩:ByteArray)[k]=Tm.gB k:=by have:∀ k:Fin 16,(⟨#[48,49,50,51,52,53,54,55,56,57,65,66,67,68,69,70]⟩:ByteArray)[k.val]=Tm.gB k.val:=aL;exact this ⟨k,h⟩
theorem tZ (c d:UInt8) (h:(c=34∧d=34)∨(c=92∧d=92)∨(c=10∧d=110)∨(c=13∧d=114)∨(c=9∧d=116)∨(c=8∧d=98)∨(c=12∧d=102)) (a:Option Addr) (n cap:Nat) (xs:List Value) (base:Nat) (W:World) (hown:W.ownsRow base 5 1 (.slice a n cap) n xs) (hn:n+2≤100000000000) (hb:base≤W.heap.size) :
  Calls prog 146 #[.slice a n cap,.int .u8 (c.toNat:Nat)] W (Ci W base (.slice a n cap) n xs c):=by
 obtain ⟨i0,hi,hz0,hz1,hz2⟩:=info_parts Tryz.info5;have HO:=aj hown;clear hown;rcases h with ⟨rfl,rfl⟩ | ⟨rfl,rfl⟩ | ⟨rfl,rfl⟩ | ⟨rfl,rfl⟩ | ⟨rfl,rfl⟩ | ⟨rfl,rfl⟩ | ⟨rfl,rfl⟩;all_goals
  go_enter func146,ntmps146
  go_wp2_with (at_builtin;refine yw rfl _ _ 32 rfl base 5 i0 _ 1 underlying32 hi hz0 hz1 hz2 rfl (.slice a n cap) n xs _ 2 (by rfl) W rfl rfl HO.out W.heap.size rfl rfl ?one ?b1 ?b2 hb ?_)
  case one=>intro u hu;simp at hu;rcases hu with rfl | rfl <;> rfl
  case b1=>unfold maxLen;omega
  case b2=>omega
  intro v1 w1 hown hgr hmv hdr
  have O1:=aj hown
  have mU:=aj (And.intro hmv hdr)
  clear hown hmv hdr
  go_wp2
  go_ret
  exact ⟨_,rfl,O1.out,hgr,mU.out⟩
def t_ (c:UInt8):Prop:=c.toNat≠34∧c.toNat≠92∧c.toNat≠10∧c.toNat≠13∧c.toNat≠9∧c.toNat≠8∧c.toNat≠12
theorem MP (c:UInt8) (h:t_ c) (hl:c.toNat<32∨c.toNat=127):Tm.esc c=[92,117,48,48,Tm.gB (c.toNat / 16),Tm.gB (c.toNat % 16)]:=by obtain ⟨h1,h2,h3,h4,h5,h6,h7⟩:=h;have e:∀ d:UInt8,c.toNat≠d.toNat→c≠d:=fun d hn he=>hn (by rw [he]);unfold Tm.esc;rw [if_neg (by rintro (h | h);exact e 34 h1 h;exact e 92 h2 h),if_neg (e 10 h3),if_neg (e 13 h4),if_neg (e 9 h5),if_neg (e 8 h6),if_neg (e 12 h7),if_pos];rcases hl with h | h;{exact .inl h};{exact .inr (UInt8.toNat_inj.1 h)}
theorem MQ (c:UInt8) (h:t_ c) (hl:32≤c.toNat∧c.toNat≠127):Tm.esc c=[c]:=by obtain ⟨h1,h2,h3,h4,h5,h6,h7⟩:=h;have e:∀ d:UInt8,c.toNat≠d.toNat→c≠d:=fun d hn he=>hn (by rw [he]);exact Tm.Mt c hl.1 (e 127 hl.2) (e 34 h1) (e 92 h2)
theorem X3 (c:UInt8) (h:t_ c) (hl:32≤c.toNat∧c.toNat≠127) (a:Option Addr) (n cap:Nat) (xs:List Value) (base:Nat) (W:World) (hown:W.ownsRow base 5 1 (.slice a n cap) n xs) (hn:n+2≤100000000000) (hb:base≤W.heap.size) :
  Calls prog 146 #[.slice a n cap,.int .u8 (c.toNat:Nat)] W (Ci W base (.slice a n cap) n xs c):=by
 obtain ⟨i0,hi,hz0,hz1,hz2⟩:=info_parts Tryz.info5;have HO:=aj hown;have HS:=aj (MQ c h hl);obtain ⟨h1,h2,h3,h4,h5,h6,h7⟩:=h;obtain ⟨h8,h9⟩:=hl;have b1:((c.toNat:Int)==34)=false:=beq_eq_false_iff_ne.2 ak;have b2:((c.toNat:Int)==92)=false:=beq_eq_false_iff_ne.2 ak;have b3:((c.toNat:Int)==10)=false:=beq_eq_false_iff_ne.2 ak;have b4:((c.toNat:Int)==13)=false:=beq_eq_false_iff_ne.2 ak;have b5:((c.toNat:Int)==9)=false:=beq_eq_false_iff_ne.2 ak;have b6:((c.toNat:Int)==8)=false:=beq_eq_false_iff_ne.2 ak;have b7:((c.toNat:Int)==12)=false:=beq_eq_false_iff_ne.2 ak;have b9:((c.toNat:Int)==127)=false:=beq_eq_false_iff_ne.2 ak;clear hown h1 h2 h3 h4 h5 h6 h7 h9;go_enter func146,ntmps146;go_wp2_with (at_builtin;refine yw rfl _ _ 32 rfl base 5 i0 _ 1 underlying32 hi hz0 hz1 hz2 rfl (.slice a n cap) n xs [dI c] 1 (by rfl) W rfl rfl HO.out W.heap.size rfl rfl ?one ?b1 ?b2 hb ?_)
 case one=>intro u hu;simp at hu;rw [hu];rfl
 case b1=>unfold maxLen;omega
 case b2=>omega
 intro v1 w1 hown hgr hmv hdr;have O1:=aj hown;have mU:=aj (And.intro hmv hdr);clear hown hmv hdr;go_wp2;go_ret;exact ⟨_,rfl,by rw [HS.out];exact O1.out,hgr,mU.out⟩
theorem X4 (c:UInt8) (h:t_ c) (hl:c.toNat<32∨c.toNat=127) (a:Option Addr) (n cap:Nat) (xs:List Value) (base:Nat) (W:World) (hown:W.ownsRow base 5 1 (.slice a n cap) n xs) (hn:n+6≤100000000000) (hb:base≤W.heap.size) :
  Calls prog 146 #[.slice a n cap,.int .u8 (c.toNat:Nat)] W (Ci W base (.slice a n cap) n xs c):=by
 obtain ⟨i0,hi,hz0,hz1,hz2⟩:=info_parts Tryz.info5;have HO:=aj hown;have HS:=aj (MP c h hl);obtain ⟨h1,h2,h3,h4,h5,h6,h7⟩:=h;have b1:((c.toNat:Int)==34)=false:=beq_eq_false_iff_ne.2 ak;have b2:((c.toNat:Int)==92)=false:=beq_eq_false_iff_ne.2 ak;have b3:((c.toNat:Int)==10)=false:=beq_eq_false_iff_ne.2 ak;have b4:((c.toNat:Int)==13)=false:=beq_eq_false_iff_ne.2 ak;have b5:((c.toNat:Int)==9)=false:=beq_eq_false_iff_ne.2 ak;have b6:((c.toNat:Int)==8)=false:=beq_eq_false_iff_ne.2 ak;have b7:((c.toNat:Int)==12)=false:=beq_eq_false_iff_ne.2 ak;have aiJ:c.toNat<128:=ak;clear hown h1 h2 h3 h4 h5 h6 h7;have hand:bits BinOp.and IntKind.u8 (c.toNat:Int) 15=((c.toNat % 16:Nat):Int):=by have:=u8_and_nat c.toNat 15 ak ak;rw [show (15:Int)=((15:Nat):Int) from rfl,this,show c.toNat &&& 15=c.toNat % 16 from Nat.and_two_pow_sub_one_eq_mod c.toNat 4]
 have hsh:(c.toNat:Int) / 16=((c.toNat / 16:Nat):Int):=ak;have hq:c.toNat / 16<16:=ak;have hr:c.toNat % 16<16:=ak;obtain ⟨k1,hk1⟩:=aB (c.toNat / 16);obtain ⟨k2,hk2⟩:=aB (c.toNat % 16);rw [←hk1] at hsh hq HS;rw [←hk2] at hand hr HS;have hq1:=fun p=>MO k1 hq p;have hr1:=fun p=>MO k2 hr p;have hqz:(k1:Int)<16:=ak;have hrz:(k2:Int)<16:=ak;have X5:(0:Int)≤(k1:Int):=ak;have X6:(0:Int)≤(k2:Int):=ak;clear hk1 hk2;rcases hl with h8 | h8
 · go_enter func146,ntmps146;go_wp2;go_region_law ((refine MN (by rfl) _ _ 32 (by rfl) base 5 i0 _ 1 underlying32 hi hz0 hz1 hz2 rfl (.slice a n cap) n xs [.int .u8 92,.int .u8 117,.int .u8 48,.int .u8 48,dI (Tm.gB k1),dI (Tm.gB k2)] 6 (by rfl) _ (by rfl) (by rfl) HO.out _ (by rfl) (by rfl) (by intro u hu;simp at hu;rcases hu with rfl | rfl | rfl | rfl | rfl | rfl <;> rfl) (by unfold maxLen;omega) ak hb ?_;intro v1 w1 hown hgr hmv hdr))
   all_goals
    have O1:=aj hown
    have mU:=aj (And.intro hmv hdr)
    clear hown hmv hdr
    go_wp2
    go_ret
    exact ⟨_,rfl,by rw [HS.out];exact O1.out,hgr,mU.out⟩
 · have b10:((c.toNat:Int)==127)=true:=beq_iff_eq.2 ak;have h9:32≤c.toNat:=ak;clear h8;go_enter func146,ntmps146;go_wp2;go_region_law ((refine MN (by rfl) _ _ 32 (by rfl) base 5 i0 _ 1 underlying32 hi hz0 hz1 hz2 rfl (.slice a n cap) n xs [.int .u8 92,.int .u8 117,.int .u8 48,.int .u8 48,dI (Tm.gB k1),dI (Tm.gB k2)] 6 (by rfl) _ (by rfl) (by rfl) HO.out _ (by rfl) (by rfl) (by intro u hu;simp at hu;rcases hu with rfl | rfl | rfl | rfl | rfl | rfl <;> rfl) (by unfold maxLen;omega) ak hb ?_;intro v1 w1 hown hgr hmv hdr))
   all_goals
    have O1:=aj hown
    have mU:=aj (And.intro hmv hdr)
    clear hown hmv hdr
    go_wp2
    go_ret
    exact ⟨_,rfl,by rw [HS.out];exact O1.out,hgr,mU.out⟩
theorem X7 (c:UInt8) (v:Value) (n:Nat) (xs:List Value) (base:Nat) (W:World) (hown:W.ownsRow base 5 1 v n xs) (hn:n+6≤100000000000) (hb:base≤W.heap.size) :
  Calls prog 146 #[v,.int .u8 (c.toNat:Nat)] W (Ci W base v n xs c):=by obtain ⟨a,cap,rfl,_,_,_,_⟩:=rF hown;by_cases h:t_ c;{by_cases hl:c.toNat<32∨c.toNat=127;{exact X4 c h hl a n cap xs base W hown hn hb};{exact X3 c h ak a n cap xs base W hown ak hb}};{unfold t_ at h;have h:c.toNat=34∨c.toNat=92∨c.toNat=10∨c.toNat=13∨c.toNat=9∨c.toNat=8∨c.toNat=12:=ak;have e:∀ d:UInt8,c.toNat=d.toNat→c=d:=fun d hd=>UInt8.toNat_inj.1 hd;rcases h with h | h | h | h | h | h | h;{obtain rfl:=e 34 h;exact tZ 34 34 aI a n cap xs base W hown ak hb};{obtain rfl:=e 92 h;exact tZ 92 92 aI a n cap xs base W hown ak hb};{obtain rfl:=e 10 h;exact tZ 10 110 aI a n cap xs base W hown ak hb};{obtain rfl:=e 13 h;exact tZ 13 114 aI a n cap xs base W hown ak hb};{obtain rfl:=e 9 h;exact tZ 9 116 aI a n cap xs base W hown ak hb};{obtain rfl:=e 8 h;exact tZ 8 98 aI a n cap xs base W hown ak hb};{obtain rfl:=e 12 h;exact tZ 12 102 aI a n cap xs base W hown ak hb}}
theorem X8 (l:List UInt8):l.map dI=(l.map UInt8.toNat).map aM:=by simp [dI,aM,List.map_map,Function.comp_def]
theorem MR (l:List UInt8):Value.string (strOf (l.map UInt8.toNat))=aA l:=by simp [strOf,aA,List.map_map,Function.comp_def]
theorem MS {w:World} {base n:Nat} {v:Value} {l:List UInt8} (h:w.ownsRow base 5 1 v n (l.map dI)) (hn:n=l.length):(convert 32 9 v).run prog w=.ok (aA l) w:=by rw [X8] at h;have:=mP (P:=prog) underlying32 underlying5 underlying9 w v (l.map UInt8.toNat) (bD.own h (by simpa using hn));rw [this,MR]
theorem MU (s:List UInt8) (k:Nat) (c:UInt8) (h:s[k]?=some c):Tm.bV (s.take (k+1))=Tm.bV (s.take k)++Tm.esc c:=by rw [List.take_add_one,h,Tm.Ms];simp [Tm.bV]
end Go.Proofs.YtjaebndajhppgaaGreatDoor
namespace Go.Proofs.YtjaebndajhppgaaGreatDoor.Tm
open Go
def enc (r:Nat):List UInt8:=(Utf8.encode (r:Int)).data.toList
def qc (r:Nat):Prop:=r<55296∨(57344≤r∧r≤1114111)
theorem MV (r:Nat) (h:qc r):enc r =
  if r<128 then [UInt8.ofNat r] else if r<2048 then [UInt8.ofNat (192+r / 64),UInt8.ofNat (128+r % 64)]
  else if r<65536 then [UInt8.ofNat (224+r / 4096),UInt8.ofNat (128+r / 64 % 64),UInt8.ofNat (128+r % 64)]
  else [UInt8.ofNat (240+r / 262144),UInt8.ofNat (128+r / 4096 % 64),UInt8.ofNat (128+r / 64 % 64),UInt8.ofNat (128+r % 64)]:=by
 have hv:Utf8.valid (r:Int)=true:=by unfold Utf8.valid;unfold qc at h;simp only [Bool.or_eq_true,Bool.and_eq_true,decide_eq_true_eq];omega
 unfold enc Utf8.encode;simp only [hv,if_true,Int.toNat_natCast];by_cases h1:r<128;{rw [if_pos h1,if_pos h1]};rw [if_neg h1,if_neg h1];by_cases h2:r<2048;{rw [if_pos h2,if_pos h2]};rw [if_neg h2,if_neg h2];by_cases h3:r<65536;{rw [if_pos h3,if_pos h3]};rw [if_neg h3,if_neg h3]
theorem oK (n:Nat) (h:n<256):(UInt8.ofNat n).toNat=n:=by simp;omega
theorem Cj (r:Nat) (h:qc r):1≤(enc r).length∧(enc r).length≤4∧((enc r).length=1→r<128):=by
 rw [MV r h];repeat' split
 all_goals simp <;> omega
end Go.Proofs.YtjaebndajhppgaaGreatDoor.Tm
namespace Go.Proofs.YtjaebndajhppgaaGreatDoor
open Go.Proofs.Tryz
open Go.ChangeShapes Go.WideShapes Go.ChangeAt Go.RowKit
theorem MW (s:List UInt8) (W:World) (hs:s.length≤1000000000) :
  Calls prog 99 #[aA s] W fun e W'=>e=.returned (aA (34::(Tm.bV s++[34])))∧Below W.heap.size W W'∧W.drawn≤W'.drawn:=by
 obtain ⟨i0,hi,hz0,hz1,hz2⟩:=info_parts Tryz.info5;have mk1:(Instr.makeSlice 32 (.int .i64 0) (.int .i64 ((s.length:Int)+2))).run prog W=.ok (.slice (some ⟨W.heap.size,0,none⟩) 0 (s.length+2)) (W.alloc (.cells (madeCells #[.int .u8 0] (s.length+2)) 5)):=by have h:=run_make W 32 5 i0 _ underlying32 hi hz0 .i64 .i64 0 ((s.length:Int)+2) ak ak (by rw [hz2];omega) ak;rw [h,hz1,show ((s.length:Int)+2).toNat=s.length+2 by omega,Nat.mul_one];rfl
 have HM:=aj (show (madeCells #[Value.int .u8 0] (s.length+2)).size=(s.length+2)*1 by rw [size_madeCells,Nat.mul_one]);go_enter func99,ntmps99;go_wp2_with (at_builtin;refine yw rfl (.tmp 9) (.tmp 10) 32 rfl W.heap.size 5 i0 _ 1 underlying32 hi hz0 hz1 hz2 rfl _ 0 [] [dI 34] 1 (by rfl) _ rfl rfl ?own (W.heap.size+1) ?hh rfl ?one ?b1 ?b2 ?base ?_)
 case own=>exact World.ownsRow_made W _ _ aF (by unfold maxLen;omega) HM.out
 case hh=>simp
 case one=>intro u hu;simp at hu;rw [hu];rfl
 case b1=>unfold maxLen;omega
 case b2=>omega
 case base=>simp
 intro v1 w1 hown hgr _ MX;have HD1:=aj (show W.drawn≤w1.drawn from MX);clear MX;have hb1:Below W.heap.size W w1:=((Below.refl W.heap.size W).alloc aF _).grown hgr aI (fun k hk=>by simp only [Value.ownBlock,Option.some.injEq] at hk;omega);have O1:=aj (show w1.ownsRow W.heap.size 5 1 v1 (1+(Tm.bV (s.take 0)).length) ((34::Tm.bV (s.take 0)).map dI) from hown);have HB1:=aj hb1;clear hown hgr hb1 mk1;go_wp2;go_loopw [14,3,4] (fun Ck s3 s4 wr=>∃ i:Nat,i≤s.length∧Ck=.int .i64 i∧Hid (wr.ownsRow W.heap.size 5 1 s3 (1+(Tm.bV (s.take i)).length) ((34::Tm.bV (s.take i)).map dI))∧Hid (Below W.heap.size W wr)∧Hid (W.drawn≤wr.drawn)) (fun Ck _ _ _=>s.length-(intOf Ck).toNat)
 case atStart=>exact ⟨0,ak,rfl,O1,HB1,HD1⟩
 case round=>
  obtain ⟨i,hi1,rfl,OO,HB,HD⟩:=hrel;have iA:=HB.out.size;have hle:=Tm.mR (s.take i);rw [List.length_take] at hle;by_cases hlt:i<s.length
  · obtain ⟨c,hc⟩:∃ c,s[i]?=some c:=⟨_,List.getElem?_eq_getElem hlt⟩;have hcc:=fun q=>fH s i c hc q;have HS:=aj (MU s i c hc);have ES:=aj (X7 c u3 _ _ W.heap.size wr OO.out ak iA);clear hc hle;(go_wp2_with (go_at_call 146;refine ES.out.mono ?_;rintro e w2 ⟨v2,rfl,O2,kS,hmv⟩));have hb2:Below W.heap.size W w2:=HB.out.grown kS iA (fun g hg=>(OO.out.lt g hg).1);have O3:=aj (show w2.ownsRow W.heap.size 5 1 v2 (1+(Tm.bV (s.take (i+1))).length) ((34::Tm.bV (s.take (i+1))).map dI) by rw [HS.out,List.length_append,←Nat.add_assoc,←List.cons_append,List.map_append];exact O2);have HB3:=aj hb2;have HD3:=aj (show W.drawn≤w2.drawn from Nat.le_trans HD.out hmv.2);clear O2 kS hmv hb2;go_roundw
    (case rel=>exact ⟨i+1,ak,aN,O3,HB3,HD3⟩);case measure=>simp [intOf];omega
  {have hnn:i=s.length:=ak;have O4:=aj (show wr.ownsRow W.heap.size 5 1 u3 (1+(Tm.bV s).length) ((34::Tm.bV s).map dI) by have h:=OO.out;rw [hnn,List.take_length] at h;exact h);have hle2:=Tm.mR s;clear OO;have CV:=aj (fun (w:World) (v:Value) (h:w.ownsRow W.heap.size 5 1 v (1+(Tm.bV s).length+1) ((34::(Tm.bV s++[34])).map dI))=>MS h (by simp;omega));(go_wp2_with (at_builtin;refine yw rfl (.tmp 23) (.tmp 24) 32 rfl W.heap.size 5 i0 _ 1 underlying32 hi hz0 hz1 hz2 rfl u3 _ _ [dI 34] 1 (by rfl) wr rfl rfl O4.out wr.heap.size rfl rfl ?one ?b1 ?b2 ?base ?_));(case one=>intro u hu;simp at hu;rw [hu];rfl);(case b1=>unfold maxLen;omega);(case b2=>omega);(case base=>exact iA);intro v5 w5 hown hgr5 _ MZ;have HD5:=aj (show W.drawn≤w5.drawn from Nat.le_trans HD.out MZ);clear MZ;have hb5:Below W.heap.size W w5:=HB.out.grown hgr5 iA (fun g hg=>(O4.out.lt g hg).1);have cv:=CV.out w5 v5 (by simpa using hown);have aO:=aj hb5;clear hown hgr5 hb5 hle hle2;go_wp2;go_ret;exact ⟨rfl,aO.out,HD5.out⟩}
theorem X9 (s:List UInt8) (W:World) (hs:s.length≤1000000000) :
  Calls prog 99 #[aA s] W fun e W'=>e=.returned (aA (34::(Tm.bV s++[34])))∧Below W.heap.size W W':=
 (MW s W hs).mono fun _ _ h=>⟨h.1,h.2.1⟩
end Go.Proofs.YtjaebndajhppgaaGreatDoor
