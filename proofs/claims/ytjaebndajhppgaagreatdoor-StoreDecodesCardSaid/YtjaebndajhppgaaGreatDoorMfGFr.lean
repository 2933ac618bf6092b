/-GFr-/
import Derived.Test.YtjaebndajhppgaaGreatDoorMfHd1
import Derived.WalkKit
import Derived.Test.YtjaebndajhppgaaGreatDoorMfGTm1
import Derived.Lib.SliceRun
import Derived.Shelf.Abstract
import Derived.Lib.AppendStr
set_option linter.unusedVariables false
set_option maxRecDepth 100000
set_option linter.unusedSimpArgs false
set_option maxHeartbeats 1000000
namespace Go.Proofs.YtjaebndajhppgaaGreatDoor.Fr
open Go Go.RowKit
abbrev T:=List UInt8
abbrev lt (a b:T):Bool:=Op.bytesLess a b
theorem tY (a:T):lt a []=false:=by cases a <;> rfl
theorem FW (b:UInt8) (y:T):lt [] (b::y)=true:=rfl
theorem qb (a b:UInt8) (x y:T):lt (a::x) (b::y)=(decide (a<b) || (a==b && lt x y)):=rfl
theorem lt_irrefl:∀ a:T,lt a a=false
 | []=>rfl
 | a::x=>by
  rw [qb,lt_irrefl x]
  simp
theorem lt_trans:∀ {a b c:T},lt a b=true→lt b c=true→lt a c=true
 | _,_,[],_,h=>by rw [tY] at h;cases h
 | _,[],_::_,h,_=>by rw [tY] at h;cases h
 | [],_::_,_::_,_,_=>rfl
 | a::x,b::y,c::z,h1,h2=>by
  rw [qb] at *
  simp only [Bool.or_eq_true,decide_eq_true_eq,Bool.and_eq_true,beq_iff_eq] at *
  rcases h1 with h1 | ⟨rfl,h1⟩
  · rcases h2 with h2 | ⟨rfl,h2⟩
    · exact .inl (UInt8.lt_trans h1 h2)
    · exact .inl h1
  · rcases h2 with h2 | ⟨rfl,h2⟩
    · exact .inl h2
    · exact .inr ⟨rfl,lt_trans h1 h2⟩
theorem rH:∀ {a b:T},lt a b=false→lt b a=false→a=b
 | [],[],_,_=>rfl
 | [],_::_,h,_=>by cases h
 | _::_,[],_,h=>by cases h
 | a::x,b::y,h1,h2=>by
  rw [qb] at *
  simp only [Bool.or_eq_false_iff,decide_eq_false_iff_not,Bool.and_eq_false_iff,beq_eq_false_iff_ne,ne_eq] at *
  obtain ⟨h1,h3⟩:=h1
  obtain ⟨h2,h4⟩:=h2
  have e:a=b:=UInt8.le_antisymm (UInt8.not_lt.1 h2) (UInt8.not_lt.1 h1)
  subst e
  simp only [not_true_eq_false,false_or] at h3 h4
  rw [rH h3 h4]
theorem lt_asymm {a b:T} (h:lt a b=true):lt b a=false:=by
 cases h2:lt b a with
 | false=>rfl
 | true=>have:=lt_trans h h2;rw [lt_irrefl] at this;cases this
theorem Mq {a b c:T} (h1:lt a b=true) (h2:lt c b=false):lt a c=true:=by
 cases h:lt b c with
 | true=>exact lt_trans h1 h
 | false=>rw [←rH h h2];exact h1
def at_ (L:List T) (i:Nat):T:=L.getD i []
def lF (L:List T) (i:Nat):Prop:=1≤(at_ L i).length∧(at_ L i).length≤250∧(0<i→lt (at_ L (i-1)) (at_ L i)=true)
instance (L:List T) (i:Nat):Decidable (lF L i):=by unfold lF;infer_instance
def May (L:List T):Prop:=L.length≤300∧∀ i,i<L.length→lF L i
instance (L:List T):Decidable (May L):=by unfold May;infer_instance
theorem May.lt {L:List T} (h:May L):∀ {j i:Nat},i<j→j<L.length→lt (at_ L i) (at_ L j)=true:=by
 intro j;induction j with
 | zero=>intro i hi;omega
 | succ j ih=>intro i hi hj;have h1:=(h.2 (j+1) hj).2.2 ak;rw [show j+1-1=j by omega] at h1;by_cases he:i=j;{rw [he];exact h1};{exact lt_trans (ih ak ak) h1}
theorem May.inj {L:List T} (h:May L) {i j:Nat} (hi:i<L.length) (hj:j<L.length) (e:at_ L i=at_ L j):i=j:=by rcases Nat.lt_trichotomy i j with h1 | h1 | h1;{have:=h.lt h1 hj;rw [e,lt_irrefl] at this;cases this};{exact h1};{have:=h.lt h1 hi;rw [e,lt_irrefl] at this;cases this}
def ext (L:List T) (id:Int):T:=if id<1∨(L.length:Int)<id then [] else at_ L (id.toNat-1)
theorem y9 {L:List T} {i:Nat} (h:i<L.length):L[i]=at_ L i:=by unfold at_;simp [List.getD,h]
def sh:T→T→Nat
 | a::x,b::y=>if a=b then sh x y+1 else 0
 | _,_=>0
theorem AQ:∀ a b:T,sh a b≤a.length∧sh a b≤b.length
 | [],[]=>⟨Nat.le_refl _,Nat.le_refl _⟩
 | [],_::_=>⟨Nat.le_refl _,Nat.zero_le _⟩
 | _::_,[]=>⟨Nat.zero_le _,Nat.le_refl _⟩
 | a::x,b::y=>by
  unfold sh
  have:=AQ x y
  split
  · simp only [List.length_cons];omega
  · exact ⟨Nat.zero_le _,Nat.zero_le _⟩
theorem J3:∀ {a b:T} {i:Nat},i<sh a b→∃ c,a[i]?=some c∧b[i]?=some c
 | [],[],i,h=>by simp [sh] at h
 | [],_::_,i,h=>by simp [sh] at h
 | _::_,[],i,h=>by simp [sh] at h
 | a::x,b::y,i,h=>by
  unfold sh at h
  split at h
  · rename_i e
    subst e
    cases i with
    | zero=>exact ⟨a,rfl,rfl⟩
    | succ i=>exact J3 (a:=x) (b:=y) ak
  · omega
theorem J4:∀ {a b:T} {c d:UInt8},a[sh a b]?=some c→b[sh a b]?=some d→c≠d
 | [],b,c,d,h,_=>by simp at h
 | _::_,[],c,d,_,h=>by simp at h
 | a::x,b::y,c,d,h1,h2=>by
  by_cases e:a=b
  · have h3:sh (a::x) (b::y)=sh x y+1:=by rw [sh,if_pos e]
    rw [h3] at h1 h2
    exact J4 (a:=x) (b:=y) (by simpa using h1) (by simpa using h2)
  · have h3:sh (a::x) (b::y)=0:=by rw [sh,if_neg e]
    rw [h3] at h1 h2
    simp at h1 h2
    rw [←h1,←h2];exact e
def eZ (L:List T) (i:Nat):Nat:=if i % 4=0 then 0 else sh (at_ L (i-1)) (at_ L i)
def fG (s:T):List Nat:=s.map UInt8.toNat
def enc (L:List T) (i:Nat):List Nat:=[eZ L i,(at_ L i).length-eZ L i]++fG ((at_ L i).drop (eZ L i))
def bf (L:List T):Nat→List Nat
 | 0=>[L.length / 256 % 256,L.length % 256]
 | k+1=>bf L k++enc L k
theorem EM (L:List T) (i:Nat):eZ L i≤(at_ L i).length:=by unfold eZ;split;{exact Nat.zero_le _};{exact (AQ _ _).2}
theorem Cj (L:List T) (i:Nat):(enc L i).length=2+((at_ L i).length-eZ L i):=by unfold enc fG;rw [List.length_append,List.length_map,List.length_drop];rfl
theorem AU {L:List T} (h:May L):∀ k,k≤L.length→(bf L k).length≤2+252*k
 | 0,_=>Nat.le_refl _
 | k+1,hk=>by
  have:=AU h k ak
  have h1:=(h.2 k ak).2.1
  unfold bf
  rw [List.length_append,Cj];omega
theorem afw (s:T):∀ x∈fG s,x<256:=by intro x hx;obtain ⟨c,_,rfl⟩:=List.mem_map.1 hx;exact c.toNat_lt
theorem EO {L:List T} (h:May L):∀ k,k≤L.length→∀ x∈bf L k,x<256
 | 0,_,x,hx=>by
  simp [bf] at hx
  rcases hx with rfl | rfl <;> omega
 | k+1,hk,x,hx=>by
  have h1:=(h.2 k ak).2.1
  have h2:=EM L k
  unfold bf at hx
  rcases List.mem_append.1 hx with hx | hx
  · exact EO h k ak x hx
  · unfold enc at hx
    rcases List.mem_append.1 hx with hx | hx
    · simp at hx
      rcases hx with rfl | rfl <;> omega
    · exact afw _ x hx
end Go.Proofs.YtjaebndajhppgaaGreatDoor.Fr
namespace Go.Proofs.YtjaebndajhppgaaGreatDoor
open Go.Proofs.Tryz
open Go.ChangeShapes Go.WideShapes Go.ChangeAt Go.RowKit
theorem Tryz.info9:(prog.info? 9).map (fun i=>(i.zero,i.size,i.bytes))=some (some (.string ByteArray.empty),1,16):=aG
def mq (w:World) (p:Nat) (L:List (List UInt8)):Prop:=∃ v,aC w p [v] 166∧fI w v L
theorem mq.keep {w w':World} {p:Nat} {L:List (List UInt8)} (h:mq w p L) (hb:Below w.heap.size w w'):mq w' p L:=by obtain ⟨v,h1,h2⟩:=h;exact ⟨v,h1.keep hb,h2.keep hb⟩
theorem afx (L:List (List UInt8)) (n:Nat) (hn:n=L.length):(List.range n).map (fun i=>aA (L[i]?.getD []))=L.map aA:=by subst hn;refine List.ext_getElem aI fun i h1 h2=>?_;simp [show i<L.length by simpa using h1]
def From (B:Nat) (w:World) (v:Value) (L:List (List UInt8)):Prop:=∀ w'',(∀ k,B≤k→k<w.heap.size→w''.heap[k]?=w.heap[k]?)→fI w'' v L
theorem afy {w:World} {B n:Nat} {v:Value} {L:List (List UInt8)} (h:w.ownsRow B 9 1 v n (L.map aA)) (hn:n=L.length):From B w v L:=by intro w'' hw;refine bD.own (base:=B) (t:=9) (n:=n) ?_ hn;obtain ⟨h1,h2⟩:=h;refine ⟨h1,?_⟩;rcases h2 with h2 | ⟨g,cap,cur,e,hg,hh,r⟩;{exact .inl h2};{exact .inr ⟨g,cap,cur,e,hg,by rw [hw g hg (lt_of_block hh)];exact hh,r⟩}
theorem afz (v:Value) (L:List (List UInt8)) (W:World) (h:fI W v L) (hL:L.length≤300) :
  Calls prog 100 #[v] W fun e W'=>∃ v',e=.returned v'∧Below W.heap.size W W'∧fI W' v' L∧From W.heap.size W' v' L:=by
 obtain ⟨i0,hi,hz0,hz1,hz2⟩:=info_parts Tryz.info9;obtain ⟨a,cap,rfl,hc1,hc2,hc3,hR⟩:=h.open;obtain ⟨n,hn⟩:=aB L.length;rw [←hn] at hc1 hc3 hR hL ⊢;cases a with
 | none=>obtain ⟨h1,h2⟩:=hc3 rfl;have hl:L=[]:=List.eq_nil_of_length_eq_zero ak;subst hl;obtain rfl:n=0:=h1;obtain rfl:cap=0:=h2;clear h hc1 hc2 hc3 hR hi hz0 hz1 hz2 hn hL;have he:=fun W=>Go.Lib.run_eql_slice_nil (P:=prog) W 47 9 none 0 0 0 0 underlying47;go_enter func100,ntmps100;go_wp2;go_ret;exact ⟨_,rfl,Below.refl _ _,bD.nil _,fun _ _=>bD.nil _⟩
 | some a=>
  have HR:=aj hR;have HN:=aj hn;clear hc3 hR hn h;have he:=fun W=>Go.Lib.run_eql_slice_nil (P:=prog) W 47 9 (some a) n cap 0 0 underlying47;go_enter func100,ntmps100;go_wp2_with (at_builtin;refine kP rfl (.tmp 5) (.tmp 6) 47 rfl W.heap.size 9 i0 _ 16 underlying47 hi hz0 hz1 hz2 rfl (.slice (some ⟨W.heap.size,0,none⟩) 0 0) 0 [] rfl ?own (some a) n cap (fun i=>aA (L.getD i [])) rfl ?nil ?row ?one ?b1 ?b2 ?base ?_)
  case own=>exact World.ownsRow_made W #[] 0 aF (by unfold maxLen;omega) rfl
  case nil=>exact fun h=>by cases h
  case row=>exact HR.out.keep ((Below.refl _ _).alloc aF _)
  case one=>intro j _;rfl
  case b1=>unfold maxLen;omega
  case b2=>omega
  case base=>simp
  intro v1 w1 hown hgr;rw [afx L n HN.out] at hown;have hb:Below W.heap.size W w1:=((Below.refl W.heap.size W).alloc aF _).grown hgr aI (fun k hk=>by simp only [Value.ownBlock,Option.some.injEq] at hk;omega);have HO:=aj hown;have HB:=aj hb;clear hown hgr hb;go_wp2;go_ret;exact ⟨_,rfl,HB.out,bD.own HO.out HN.out,afy HO.out HN.out⟩
theorem Tw (v:Value) (L:List (List UInt8)) (W:World) (h:fI W v L) (hm:Fr.May L) :
  Calls prog 58 #[v] W fun e W'=>∃ p,e=.returned (.tuple #[.pointer (some ⟨p,0,none⟩),.int .i64 0])∧Below W.heap.size W W'∧mq W' p L∧W.heap.size≤p ∧
   (∀ w'',(∀ k,W.heap.size≤k→k<W'.heap.size→w''.heap[k]?=W'.heap[k]?)→mq w'' p L):=by
 have CL:=aj (afz v L W h hm.1);obtain ⟨a,cap,rfl,hc1,hc2,hc3,hR⟩:=h.open;obtain ⟨n,hn⟩:=aB L.length;have rM:n≤300:=by rw [hn];exact hm.1
 have HM:=aj (fun i (hi:i<n)=>hm.2 i ak);rw [←hn] at hc1 hR CL ⊢;clear hc3 h hm hn;go_enter func58,ntmps58;go_wp2;go_loop [11,4,5] (fun s11 s4 s5=>∃ i:Nat,i≤n∧s11=.int .i64 i) (fun s11 _ _=>n-(intOf s11).toNat)
 case atStart=>exact ⟨0,ak,rfl⟩
 case round=>
  obtain ⟨i,hin,rfl⟩:=hrel;by_cases hlt:i<n
  · obtain ⟨b,off,rfl,hc⟩:=hR.get hlt;have c0:=hc i hlt;obtain ⟨h1,h2,h3⟩:=HM.out i hlt;unfold Fr.at_ at h1 h2 h3;obtain ⟨x,hx⟩:=aB (L.getD i []);rw [←hx] at c0 h1 h2 h3;have hx0:(x==[])=false:=beq_eq_false_iff_ne.2 (by intro e;rw [e] at h1;simp at h1);rcases Nat.eq_zero_or_pos i with h0 | h0
    · subst h0;rw [Nat.add_zero] at c0;clear hc hx h3;go_wp2;go_round
      (case rel=>exact ⟨1,ak,aN⟩);case measure=>simp [intOf];omega
    · have c1:=hc (i-1) ak;have h4:=h3 h0;obtain ⟨y,hy⟩:=aB (L.getD (i-1) []);rw [←hy] at c1 h4;have h4:Op.bytesLess y x=true:=h4;clear hc hx hy h3;go_wp2;go_round
      (case rel=>exact ⟨i+1,ak,aN⟩);case measure=>simp [intOf];omega
  · obtain rfl:i=n:=ak;(go_wp2_with fail);refine CL.out.mono ?_;rintro e w1 ⟨v',rfl,hb,hT,hF⟩;obtain ⟨a2,cap2,rfl,_,_,_,_⟩:=hT.open;have HT:=aj hT;have HF:=aj hF;have HB:=aj hb;clear hT hF;go_wp2;go_ret2
    refine ⟨w1.heap.size,rfl,HB.out.alloc hb.size _,⟨_,aC.new _ _ _,HT.out.keep ((Below.refl _ _).alloc aF _)⟩,hb.size,fun w'' hw=>⟨.slice a2 L.length cap2,?_,?_⟩⟩;{have:=aC.new w1 [.slice a2 L.length cap2] 166;unfold aC at *;rw [hw _ hb.size aI];exact this};{refine HF.out w'' fun k h1 h2=>?_;rw [hw k h1 (by simp;omega),Below.heap_alloc _ _ _ h2]}
def Fr.dN (L:List (List UInt8)) (t:List UInt8) (n r:Nat):Bool:=decide (r<n∧Fr.at_ L r=t)
theorem afA (a b:List UInt8) (W:World) (ha:a.length≤9223372036854775806) (hb:b.length≤9223372036854775806) :
  Calls prog 104 #[aA a,aA b] W fun e W'=>e=.returned (.int .i64 (Fr.sh a b:Nat))∧∃ q,W'=W.drewN q:=by
 obtain ⟨hla,hlb⟩:=Fr.AQ a b;go_enter func104,ntmps104;go_wp2;go_loopw [5] (fun s5 wr=>∃ i q:Nat,i≤Fr.sh a b∧s5=.int .i64 i∧wr=W.drewN q) (fun s5 _=>Fr.sh a b-(intOf s5).toNat)
 case atStart=>exact ⟨0,0,ak,rfl,rfl⟩
 case round=>
  obtain ⟨i,q,hi,rfl,rfl⟩:=hrel;by_cases hlt:i<Fr.sh a b
  · obtain ⟨c,h1,h2⟩:=Fr.J3 hlt;have g1:=fun p=>fH a i c h1 p;have g2:=fun p=>fH b i c h2 p;have hia:i<a.length:=ak;have hib:i<b.length:=ak;clear h1 h2;go_wp2;(go_quiet (fail));go_wp2;go_roundw
    (case rel=>exact ⟨i+1,_,ak,aN,rfl⟩);case measure=>simp [intOf];omega
  {have hi':i=Fr.sh a b:=ak;have HI:=aj hi';by_cases hia:i<a.length;{by_cases hib:i<b.length;{obtain ⟨c,h1⟩:∃ c,a[i]?=some c:=⟨_,List.getElem?_eq_getElem hia⟩;obtain ⟨d,h2⟩:∃ c,b[i]?=some c:=⟨_,List.getElem?_eq_getElem hib⟩;have hcd:=Fr.J4 (c:=c) (d:=d) (by rw [←hi'];exact h1) (by rw [←hi'];exact h2);have afB:((c.toNat:Int)==(d.toNat:Int))=false:=beq_eq_false_iff_ne.2 (fun e=>hcd (UInt8.toNat_inj.1 ak));have g1:=fun p=>fH a i c h1 p;have g2:=fun p=>fH b i d h2 p;clear h1 h2 hcd hi';go_wp2;(go_quiet (fail));go_wp2;go_ret;exact ⟨jm (by rw [HI.out]),_,World.drewN_drewN _ _ _⟩};{clear hi';go_wp2;(go_quiet (fail));go_wp2;go_ret;exact ⟨jm (by rw [HI.out]),_,World.drewN_drewN _ _ _⟩}};{clear hi';go_wp2;(go_quiet (fail));go_wp2;go_ret;exact ⟨jm (by rw [HI.out]),_,World.drewN_drewN _ _ _⟩}}
theorem Tryz.infofr5:(prog.info? 5).map (fun i=>(i.zero,i.size,i.bytes))=some (some (.int .u8 0),1,1):=aG
theorem xA (l:List UInt8):(⟨l.toArray⟩:ByteArray).size=l.length:=by simp [ByteArray.size]
theorem Tx (l:List UInt8):Go.Lib.strCells ⟨l.toArray⟩=(Fr.fG l).map aM:=by unfold Go.Lib.strCells Fr.fG;simp [aM]
theorem xB (w:World) (t:TypeId) (cur:Array Value) (n:Nat) (hs:cur.size=n) (hm:n≤maxLen) {xs:List Value} (hx:cur.toList=xs):(w.alloc (.cells cur t)).ownsRow w.heap.size t 1 (.slice (some ⟨w.heap.size,0,none⟩) n n) n xs:=by subst hx;refine ⟨by simpa using hs,.inr ⟨w.heap.size,n,cur,rfl,Nat.le_refl _,heap_alloc_new w _,Nat.le_refl _,hm,ak,?_⟩⟩;rw [Nat.mul_one,List.take_of_length_le (by simp;omega)]
theorem EP {w:World} {b n m:Nat} {t:TypeId} {v:Value} {xs:List Value} (h:w.ownsRow b t 1 v n xs) (e:n=m):w.ownsRow b t 1 v m xs:=e ▸ h
theorem Tz (p:Nat) (L:List (List UInt8)) (W:World) (h:mq W p L) (hm:Fr.May L) :
  Calls prog 60 #[.pointer (some ⟨p,0,none⟩)] W fun e W'=>∃ v,e=.returned v∧Below W.heap.size W W'∧W'.ownsRow W.heap.size 5 1 v (Fr.bf L L.length).length ((Fr.bf L L.length).map aM):=by
 obtain ⟨i0,hi,hz0,hz1,hz2⟩:=info_parts Tryz.infofr5;obtain ⟨v,B,hT⟩:=h;have c0:=B.cell (i:=0) (v:=v) rfl;obtain ⟨a,cap,rfl,hc1,hc2,hc3,hR⟩:=hT.open;obtain ⟨n,hn⟩:=aB L.length;have rM:n≤300:=by rw [hn];exact hm.1
 have HM:=aj (fun i (hi:i<n)=>(hm.2 i ak).2.1);have HL:=aj (fun k (hk:k≤n)=>Fr.AU hm k ak);have HC:=aj c0;have H0:=aj (show Fr.bf L 0=[n / 256 % 256,n % 256] by rw [hn];rfl);rw [←hn] at hR c0 ⊢;have HR:=aj hR;have hw1:IntKind.u8.wrap ((n:Int) / 256)=((n / 256 % 256:Nat):Int):=by rw [IntKind.wrap_u8'];omega
 have hw2:IntKind.u8.wrap (n:Int)=((n % 256:Nat):Int):=by rw [IntKind.wrap_u8'];omega
 have SH:=aj (fun a b W ha hb=>afA a b W ha hb);rw [←hn] at HC;clear hT B hm hc3 hn;have cA:=fun o=>(show (W.alloc o).cell? ⟨p,0,none⟩=some (.slice a n cap) from aD ((Below.refl _ _).alloc aF o) c0);go_enter func60,ntmps60;go_wp2;go_region
 go_wp2;clear cA c0;go_loopw [28,3,4,5,6] (fun J5 s3 s4 s5 s6 wr=>∃ i:Nat,i≤n∧J5=.int .i64 i∧Hid (wr.ownsRow W.heap.size 5 1 s3 (Fr.bf L i).length ((Fr.bf L i).map aM))∧Hid (Below W.heap.size W wr)) (fun J5 _ _ _ _ _=>n-(intOf J5).toNat)
 case atStart=>refine ⟨0,ak,rfl,?_,(((Below.refl _ _).alloc aF _).drew)⟩;rw [H0.out];exact xB W 5 #[.int .u8 ((n:Int) / 256 % 256),.int .u8 ((n:Int) % 256)] 2 rfl (by unfold maxLen;omega) (by simp [aM])
 case round=>
  obtain ⟨i,hin,rfl,OO,HB⟩:=hrel;have iA:=HB.out.size;by_cases hlt:i<n
  · obtain ⟨b,off,rfl,hc⟩:=(HR.out.keep HB.out).get hlt;have c0:=aD HB.out HC.out;have c1:=hc i hlt;have hxl:=HM.out i hlt;have hbl:=HL.out i ak;have HX:=aj (show Fr.at_ L i=L.getD i [] from rfl);have hks:=Fr.EM L i;unfold Fr.at_ at hxl;obtain ⟨x,hx⟩:=aB (L.getD i []);rw [←hx] at c1 hxl HX;rw [show Fr.at_ L i=x from HX.out] at hks;rcases Nat.eq_zero_or_pos (i % 4) with h4 | h4
    · have sW:Int.tmod (i:Int) 4=0:=(by rw [Int.tmod_eq_emod_of_nonneg ak];omega);have HK:=aj (show (0:Nat)=Fr.eZ L i by unfold Fr.eZ;rw [if_pos h4]);obtain ⟨wc,hwc⟩:=aB wr;subst hwc;have OC:=OO;have kW:=HB;have hzc:=iA;clear hc hx hks h4;obtain ⟨x2,hx2⟩:=aB (x.drop 0);have ed:(⟨x.toArray⟩:ByteArray).extract 0 x.length=⟨x2.toArray⟩:=(by rw [hx2];exact nM x 0);have hl2:x2.length+0=x.length:=(by rw [hx2,List.length_drop];omega);have J6:IntKind.u8.wrap (x.length:Int)=(x.length:Int):=(by rw [IntKind.wrap_u8'];omega);have HE:=aj (show Fr.enc L i=[0,x.length]++Fr.fG x2 by unfold Fr.enc;rw [←HK.out,show Fr.at_ L i=x from HX.out,←hx2];rfl);have hxi:(x.length:Int)-0=((x.length:Nat):Int):=ak;have AV:=aj hxi;clear hx2 hxi;(go_wp2_with (at_builtin;refine kP rfl (.tmp 46) (.tmp 54) 32 rfl W.heap.size 5 i0 _ 1 underlying32 hi hz0 hz1 hz2 rfl _ _ _ rfl (OC.out.alloc _) (some ⟨wc.heap.size,0,none⟩) 2 2 (fun j=>aM ([0,x.length].getD j 0)) rfl ?nil ?row ?one ?b1 ?b2 ?base ?_));(case nil=>exact fun h=>by cases h);(case row=>refine Or.inr ⟨_,_,rfl,fun j hj=>?_⟩;rw [Nat.zero_add,fD];rcases (show j=0∨j=1 by omega) with rfl | rfl;{rfl};{exact congrArg (fun z=>some (Value.int .u8 z)) aI});(case one=>intro j _;rfl);(case b1=>unfold maxLen;omega);(case b2=>omega);(case base=>simp;omega);intro v1 w1 hown hgr;have hb1:Below W.heap.size W w1:=(kW.out.alloc hzc _).grown hgr (by simp;omega) (fun g hg=>(OC.out.lt g hg).1);have hown':w1.ownsRow W.heap.size 5 1 v1 ((Fr.bf L i).length+2) ((Fr.bf L i++[0,x.length]).map aM):=(by rw [List.map_append];exact hown);have O1:=aj hown';have HB1:=aj hb1;have hz1':=hb1.size;clear hown hown' hgr hb1;(go_wp2_with (at_builtin;refine Go.Lib.wpList_append_own_string _ rfl (.tmp 56) (.tmp 59) 32 9 rfl W.heap.size 5 i0 underlying32 underlying9 hi hz0 hz1 hz2 v1 _ _ rfl O1.out ⟨x2.toArray⟩ rfl ?c1 ?c2 ?c3 ?_));(case c1=>rw [xA];unfold maxLen;omega);(case c2=>rw [xA];omega);(case c3=>exact hz1');intro v2 w2 hown2 kS _;have hb2:Below W.heap.size W w2:=HB1.out.grown kS hz1' (fun g hg=>(O1.out.lt g hg).1);rw [Tx] at hown2;have hown3:w2.ownsRow W.heap.size 5 1 v2 ((Fr.bf L i).length+2+x2.length) ((Fr.bf L i++Fr.enc L i).map aM):=(by rw [HE.out];simpa using hown2);have O2:=aj hown3;have HB2:=aj hb2;clear hown2 hown3 kS hb2;go_wp2;go_roundw
      (case rel=>exact ⟨i+1,ak,aN,EP (O2.out) (by show _=(Fr.bf L i++Fr.enc L i).length;rw [List.length_append,HE.out,List.length_append];unfold Fr.fG;rw [List.length_map];simp only [List.length_cons,List.length_nil];omega),HB2.out⟩);case measure=>simp [intOf];omega
    · have sW:Int.tmod (i:Int) 4=((i % 4:Nat):Int):=(by rw [Int.tmod_eq_emod_of_nonneg ak];omega);have TA:(((i % 4:Nat):Int)==0)=false:=beq_eq_false_iff_ne.2 ak;have hi0:0<i:=ak;have c2:=hc (i-1) ak;have hyl:=HM.out (i-1) ak;unfold Fr.at_ at hyl;have HY:=aj (show Fr.at_ L (i-1)=L.getD (i-1) [] from rfl);obtain ⟨y,hy⟩:=aB (L.getD (i-1) []);rw [←hy] at c2 hyl HY;have SS:=aj (fun W=>SH.out y x W ak ak);have hk0:Fr.eZ L i=Fr.sh y x:=(by unfold Fr.eZ;rw [if_neg ak,show Fr.at_ L i=x from HX.out,show Fr.at_ L (i-1)=y from HY.out]);rw [hk0] at hks;obtain ⟨k,hk⟩:=aB (Fr.sh y x);have HK:=aj (show k=Fr.eZ L i by rw [hk0,hk]);rw [←hk] at SS hks;clear hc hx hy hk hk0 h4;(go_wp2_with fail);refine (SS.out _).mono ?_;rintro e wc ⟨rfl,q,hq⟩;have OC:=aj (show wc.ownsRow W.heap.size 5 1 u3 (Fr.bf L i).length ((Fr.bf L i).map aM) by rw [hq];exact OO.out);have kW:=aj (show Below W.heap.size W wc by rw [hq];exact bn HB.out q);have hzc:=kW.out.size;clear hq;obtain ⟨x2,hx2⟩:=aB (x.drop k);have ed:(⟨x.toArray⟩:ByteArray).extract k x.length=⟨x2.toArray⟩:=(by rw [hx2];exact nM x k);have hl2:x2.length+k=x.length:=(by rw [hx2,List.length_drop];omega);have hwk:IntKind.u8.wrap (k:Int)=(k:Int):=(by rw [IntKind.wrap_u8'];omega);have J6:IntKind.u8.wrap ((x.length:Int)-k)=(x.length:Int)-k:=(by rw [IntKind.wrap_u8'];omega);have hwn:IntKind.i64.wrap ((x.length:Int)-k)=(x.length:Int)-k:=(by rw [IntKind.wrap_i64];omega);have HE:=aj (show Fr.enc L i=[k,x.length-k]++Fr.fG x2 by unfold Fr.enc;rw [←HK.out,show Fr.at_ L i=x from HX.out,←hx2]);have hxi:(x.length:Int)-k=((x.length-k:Nat):Int):=ak;have AV:=aj hxi;clear hx2 hxi;(go_wp2_with (at_builtin;refine kP rfl (.tmp 46) (.tmp 54) 32 rfl W.heap.size 5 i0 _ 1 underlying32 hi hz0 hz1 hz2 rfl _ _ _ rfl (OC.out.alloc _) (some ⟨wc.heap.size,0,none⟩) 2 2 (fun j=>aM ([k,x.length-k].getD j 0)) rfl ?nil ?row ?one ?b1 ?b2 ?base ?_));(case nil=>exact fun h=>by cases h);(case row=>refine Or.inr ⟨_,_,rfl,fun j hj=>?_⟩;rw [Nat.zero_add,fD];rcases (show j=0∨j=1 by omega) with rfl | rfl;{rfl};{exact congrArg (fun z=>some (Value.int .u8 z)) AV.out});(case one=>intro j _;rfl);(case b1=>unfold maxLen;omega);(case b2=>omega);(case base=>simp;omega);intro v1 w1 hown hgr;have hb1:Below W.heap.size W w1:=(kW.out.alloc hzc _).grown hgr (by simp;omega) (fun g hg=>(OC.out.lt g hg).1);have hown':w1.ownsRow W.heap.size 5 1 v1 ((Fr.bf L i).length+2) ((Fr.bf L i++[k,x.length-k]).map aM):=(by rw [List.map_append];exact hown);have O1:=aj hown';have HB1:=aj hb1;have hz1':=hb1.size;clear hown hown' hgr hb1;(go_wp2_with (at_builtin;refine Go.Lib.wpList_append_own_string _ rfl (.tmp 56) (.tmp 59) 32 9 rfl W.heap.size 5 i0 underlying32 underlying9 hi hz0 hz1 hz2 v1 _ _ rfl O1.out ⟨x2.toArray⟩ rfl ?c1 ?c2 ?c3 ?_));(case c1=>rw [xA];unfold maxLen;omega);(case c2=>rw [xA];omega);(case c3=>exact hz1');intro v2 w2 hown2 kS _;have hb2:Below W.heap.size W w2:=HB1.out.grown kS hz1' (fun g hg=>(O1.out.lt g hg).1);rw [Tx] at hown2;have hown3:w2.ownsRow W.heap.size 5 1 v2 ((Fr.bf L i).length+2+x2.length) ((Fr.bf L i++Fr.enc L i).map aM):=(by rw [HE.out];simpa using hown2);have O2:=aj hown3;have HB2:=aj hb2;clear hown2 hown3 kS hb2;go_wp2;go_roundw
      (case rel=>exact ⟨i+1,ak,aN,EP (O2.out) (by show _=(Fr.bf L i++Fr.enc L i).length;rw [List.length_append,HE.out,List.length_append];unfold Fr.fG;rw [List.length_map];simp only [List.length_cons,List.length_nil];omega),HB2.out⟩);case measure=>simp [intOf];omega
  {obtain rfl:i=n:=ak;go_wp2;go_ret;exact ⟨_,rfl,HB.out,OO.out⟩}
end Go.Proofs.YtjaebndajhppgaaGreatDoor
