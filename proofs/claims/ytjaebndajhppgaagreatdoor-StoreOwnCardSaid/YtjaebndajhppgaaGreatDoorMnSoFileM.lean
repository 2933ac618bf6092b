/-SoFileM-/
import Derived.WalkKit
import Derived.Test.YtjaebndajhppgaaGreatDoorMnGTm1
import Derived.Lib.SliceRun
import Derived.Shelf.Abstract
import Derived.Lib.AppendStr
import Derived.Test.YtjaebndajhppgaaGreatDoorMnGRg2
import Derived.Lib.SlBytesConst
import Derived.Test.YtjaebndajhppgaaGreatDoorMnSoComp
import Derived.Test.YtjaebndajhppgaaGreatDoorMnGRg6
set_option linter.unusedVariables false
set_option maxRecDepth 100000
set_option linter.unusedSimpArgs false
set_option maxHeartbeats 1000000
namespace Go.Proofs.YtjaebndajhppgaaGreatDoor.Fr
open Go Go.RowKit
abbrev T:=List UInt8
abbrev lt (a b:T):Bool:=Op.bytesLess a b
theorem lt_nil (a:T):lt a []=false:=by cases a <;> rfl
theorem lt_nil_cons (b:UInt8) (y:T):lt [] (b::y)=true:=rfl
theorem lt_cons (a b:UInt8) (x y:T):lt (a::x) (b::y)=(decide (a<b) || (a==b && lt x y)):=rfl
theorem lt_irrefl:∀ a:T,lt a a=false
 | []=>rfl
 | a::x=>by
  rw [lt_cons,lt_irrefl x]
  simp
theorem lt_trans:∀ {a b c:T},lt a b=true→lt b c=true→lt a c=true
 | _,_,[],_,h=>by rw [lt_nil] at h;cases h
 | _,[],_::_,h,_=>by rw [lt_nil] at h;cases h
 | [],_::_,_::_,_,_=>rfl
 | a::x,b::y,c::z,h1,h2=>by
  rw [lt_cons] at *
  simp only [Bool.or_eq_true,decide_eq_true_eq,Bool.and_eq_true,beq_iff_eq] at *
  rcases h1 with h1 | ⟨rfl,h1⟩
  · rcases h2 with h2 | ⟨rfl,h2⟩
    · exact .inl (UInt8.lt_trans h1 h2)
    · exact .inl h1
  · rcases h2 with h2 | ⟨rfl,h2⟩
    · exact .inl h2
    · exact .inr ⟨rfl,lt_trans h1 h2⟩
theorem lt_tri:∀ {a b:T},lt a b=false→lt b a=false→a=b
 | [],[],_,_=>rfl
 | [],_::_,h,_=>by cases h
 | _::_,[],_,h=>by cases h
 | a::x,b::y,h1,h2=>by
  rw [lt_cons] at *
  simp only [Bool.or_eq_false_iff,decide_eq_false_iff_not,Bool.and_eq_false_iff,beq_eq_false_iff_ne,ne_eq] at *
  obtain ⟨h1,h3⟩:=h1
  obtain ⟨h2,h4⟩:=h2
  have e:a=b:=UInt8.le_antisymm (UInt8.not_lt.1 h2) (UInt8.not_lt.1 h1)
  subst e
  simp only [not_true_eq_false,false_or] at h3 h4
  rw [lt_tri h3 h4]
theorem lt_asymm {a b:T} (h:lt a b=true):lt b a=false:=by
 cases h2:lt b a with
 | false=>rfl
 | true=>have:=lt_trans h h2;rw [lt_irrefl] at this;cases this
theorem lt_of_not' {a b c:T} (h1:lt a b=true) (h2:lt c b=false):lt a c=true:=by
 cases h:lt b c with
 | true=>exact lt_trans h1 h
 | false=>rw [←lt_tri h h2];exact h1
def at_ (L:List T) (i:Nat):T:=L.getD i []
def OkAt (L:List T) (i:Nat):Prop:=1≤(at_ L i).length∧(at_ L i).length≤250∧(0<i→lt (at_ L (i-1)) (at_ L i)=true)
instance (L:List T) (i:Nat):Decidable (OkAt L i):=by unfold OkAt;infer_instance
def May (L:List T):Prop:=L.length≤300∧∀ i,i<L.length→OkAt L i
instance (L:List T):Decidable (May L):=by unfold May;infer_instance
theorem May.lt {L:List T} (h:May L):∀ {j i:Nat},i<j→j<L.length→lt (at_ L i) (at_ L j)=true:=by
 intro j
 induction j with
 | zero=>intro i hi;omega
 | succ j ih=>
  intro i hi hj
  have h1:=(h.2 (j+1) hj).2.2 (by omega)
  rw [show j+1-1=j by omega] at h1
  by_cases he:i=j
  · rw [he];exact h1
  · exact lt_trans (ih (by omega) (by omega)) h1
theorem May.inj {L:List T} (h:May L) {i j:Nat} (hi:i<L.length) (hj:j<L.length) (e:at_ L i=at_ L j):i=j:=by
 rcases Nat.lt_trichotomy i j with h1 | h1 | h1
 · have:=h.lt h1 hj;rw [e,lt_irrefl] at this;cases this
 · exact h1
 · have:=h.lt h1 hi;rw [e,lt_irrefl] at this;cases this
def ext (L:List T) (id:Int):T:=if id<1∨(L.length:Int)<id then [] else at_ L (id.toNat-1)
theorem at_get {L:List T} {i:Nat} (h:i<L.length):L[i]=at_ L i:=by unfold at_;simp [List.getD,h]
def sh:T→T→Nat
 | a::x,b::y=>if a=b then sh x y+1 else 0
 | _,_=>0
theorem sh_le:∀ a b:T,sh a b≤a.length∧sh a b≤b.length
 | [],[]=>⟨Nat.le_refl _,Nat.le_refl _⟩
 | [],_::_=>⟨Nat.le_refl _,Nat.zero_le _⟩
 | _::_,[]=>⟨Nat.zero_le _,Nat.le_refl _⟩
 | a::x,b::y=>by
  unfold sh
  have:=sh_le x y
  split
  · simp only [List.length_cons];omega
  · exact ⟨Nat.zero_le _,Nat.zero_le _⟩
theorem sh_same:∀ {a b:T} {i:Nat},i<sh a b→∃ c,a[i]?=some c∧b[i]?=some c
 | [],[],i,h=>by simp [sh] at h
 | [],_::_,i,h=>by simp [sh] at h
 | _::_,[],i,h=>by simp [sh] at h
 | a::x,b::y,i,h=>by
  unfold sh at h
  split at h
  · rename_i e
    subst e
    cases i with
    | zero=>exact ⟨a,rfl,rfl⟩
    | succ i=>exact sh_same (a:=x) (b:=y) (by omega)
  · omega
theorem sh_stop:∀ {a b:T} {c d:UInt8},a[sh a b]?=some c→b[sh a b]?=some d→c≠d
 | [],b,c,d,h,_=>by simp at h
 | _::_,[],c,d,_,h=>by simp at h
 | a::x,b::y,c,d,h1,h2=>by
  by_cases e:a=b
  · have h3:sh (a::x) (b::y)=sh x y+1:=by rw [sh,if_pos e]
    rw [h3] at h1 h2
    exact sh_stop (a:=x) (b:=y) (by simpa using h1) (by simpa using h2)
  · have h3:sh (a::x) (b::y)=0:=by rw [sh,if_neg e]
    rw [h3] at h1 h2
    simp at h1 h2
    rw [←h1,←h2];exact e
def shAt (L:List T) (i:Nat):Nat:=if i % 4=0 then 0 else sh (at_ L (i-1)) (at_ L i)
def nats (s:T):List Nat:=s.map UInt8.toNat
def enc (L:List T) (i:Nat):List Nat:=[shAt L i,(at_ L i).length-shAt L i]++nats ((at_ L i).drop (shAt L i))
def byt (L:List T):Nat→List Nat
 | 0=>[L.length / 256 % 256,L.length % 256]
 | k+1=>byt L k++enc L k
theorem shAt_le (L:List T) (i:Nat):shAt L i≤(at_ L i).length:=by
 unfold shAt
 split
 · exact Nat.zero_le _
 · exact (sh_le _ _).2
theorem enc_len (L:List T) (i:Nat):(enc L i).length=2+((at_ L i).length-shAt L i):=by
 unfold enc nats
 rw [List.length_append,List.length_map,List.length_drop];rfl
theorem byt_len {L:List T} (h:May L):∀ k,k≤L.length→(byt L k).length≤2+252*k
 | 0,_=>Nat.le_refl _
 | k+1,hk=>by
  have:=byt_len h k (by omega)
  have h1:=(h.2 k (by omega)).2.1
  unfold byt
  rw [List.length_append,enc_len];omega
theorem nats_lt (s:T):∀ x∈nats s,x<256:=by
 intro x hx
 obtain ⟨c,_,rfl⟩:=List.mem_map.1 hx
 exact c.toNat_lt
theorem byt_lt {L:List T} (h:May L):∀ k,k≤L.length→∀ x∈byt L k,x<256
 | 0,_,x,hx=>by
  simp [byt] at hx
  rcases hx with rfl | rfl <;> omega
 | k+1,hk,x,hx=>by
  have h1:=(h.2 k (by omega)).2.1
  have h2:=shAt_le L k
  unfold byt at hx
  rcases List.mem_append.1 hx with hx | hx
  · exact byt_lt h k (by omega) x hx
  · unfold enc at hx
    rcases List.mem_append.1 hx with hx | hx
    · simp at hx
      rcases hx with rfl | rfl <;> omega
    · exact nats_lt _ x hx
end Go.Proofs.YtjaebndajhppgaaGreatDoor.Fr
namespace Go.Proofs.YtjaebndajhppgaaGreatDoor
open Go.ChangeShapes Go.WideShapes Go.ChangeAt Go.RowKit
theorem Tryz.info9:(Tryz.prog.info? 9).map (fun i=>(i.zero,i.size,i.bytes))=some (some (.string ByteArray.empty),1,16):=by kernel_rfl
def IsDict (w:World) (p:Nat) (L:List (List UInt8)):Prop:=∃ v,Blk w p [v] 166∧TextsAt w v L
theorem IsDict.keep {w w':World} {p:Nat} {L:List (List UInt8)} (h:IsDict w p L) (hb:Below w.heap.size w w'):IsDict w' p L:=by
 obtain ⟨v,h1,h2⟩:=h
 exact ⟨v,h1.keep hb,h2.keep hb⟩
theorem texts_range (L:List (List UInt8)) (n:Nat) (hn:n=L.length):(List.range n).map (fun i=>str (L[i]?.getD []))=L.map str:=by
 subst hn
 refine List.ext_getElem (by simp) fun i h1 h2=>?_
 simp [show i<L.length by simpa using h1]
def From (B:Nat) (w:World) (v:Value) (L:List (List UInt8)):Prop:=∀ w'',(∀ k,B≤k→k<w.heap.size→w''.heap[k]?=w.heap[k]?)→TextsAt w'' v L
theorem from_own {w:World} {B n:Nat} {v:Value} {L:List (List UInt8)} (h:w.ownsRow B 9 1 v n (L.map str)) (hn:n=L.length):From B w v L:=by
 intro w'' hw
 refine SlAt.own (base:=B) (t:=9) (n:=n) ?_ hn
 obtain ⟨h1,h2⟩:=h
 refine ⟨h1,?_⟩
 rcases h2 with h2 | ⟨g,cap,cur,e,hg,hh,r⟩
 · exact .inl h2
 · exact .inr ⟨g,cap,cur,e,hg,by rw [hw g hg (lt_of_block hh)];exact hh,r⟩
theorem frclone_any (v:Value) (L:List (List UInt8)) (W:World) (h:TextsAt W v L) (hL:L.length≤300) :
  Calls Tryz.prog 100 #[v] W fun e W'=>∃ v',e=.returned v'∧Below W.heap.size W W'∧TextsAt W' v' L∧From W.heap.size W' v' L:=by
 obtain ⟨i0,hi,hz0,hz1,hz2⟩:=info_parts Tryz.info9
 obtain ⟨a,cap,rfl,hc1,hc2,hc3,hR⟩:=h.open
 obtain ⟨n,hn⟩:∃ n,n=L.length:=⟨_,rfl⟩
 rw [←hn] at hc1 hc3 hR hL ⊢
 cases a with
 | none=>
  obtain ⟨h1,h2⟩:=hc3 rfl
  have hl:L=[]:=List.eq_nil_of_length_eq_zero (by omega)
  subst hl
  obtain rfl:n=0:=h1
  obtain rfl:cap=0:=h2
  clear h hc1 hc2 hc3 hR hi hz0 hz1 hz2 hn hL
  have he:=fun W=>Go.Lib.run_eql_slice_nil (P:=Tryz.prog) W 47 9 none 0 0 0 0 Tryz.underlying47
  go_enter Tryz.func100,Tryz.ntmps100
  go_wp2
  go_ret
  exact ⟨_,rfl,Below.refl _ _,SlAt.nil _,fun _ _=>SlAt.nil _⟩
 | some a=>
  have HR:=hid hR
  have HN:=hid hn
  clear hc3 hR hn h
  have he:=fun W=>Go.Lib.run_eql_slice_nil (P:=Tryz.prog) W 47 9 (some a) n cap 0 0 Tryz.underlying47
  go_enter Tryz.func100,Tryz.ntmps100
  go_wp2_with (at_builtin;refine wpList_append_row rfl (.tmp 5) (.tmp 6) 47 rfl W.heap.size 9 i0 _ 16 Tryz.underlying47 hi hz0 hz1 hz2 rfl (.slice (some ⟨W.heap.size,0,none⟩) 0 0) 0 [] rfl ?own (some a) n cap (fun i=>str (L.getD i [])) rfl ?nil ?row ?one ?b1 ?b2 ?base ?_)
  case own=>exact World.ownsRow_made W #[] 0 (Nat.le_refl _) (by unfold maxLen;omega) rfl
  case nil=>exact fun h=>by cases h
  case row=>exact HR.out.keep ((Below.refl _ _).alloc (Nat.le_refl _) _)
  case one=>intro j _;rfl
  case b1=>unfold maxLen;omega
  case b2=>omega
  case base=>simp
  intro v1 w1 hown hgr
  rw [texts_range L n HN.out] at hown
  have hb:Below W.heap.size W w1:=((Below.refl W.heap.size W).alloc (Nat.le_refl _) _).grown hgr (by simp) (fun k hk=>by
   simp only [Value.ownBlock,Option.some.injEq] at hk;omega)
  have HO:=hid hown
  have HB:=hid hb
  clear hown hgr hb
  go_wp2
  go_ret
  exact ⟨_,rfl,HB.out,SlAt.own HO.out HN.out,from_own HO.out HN.out⟩
theorem new_ok (v:Value) (L:List (List UInt8)) (W:World) (h:TextsAt W v L) (hm:Fr.May L) :
  Calls Tryz.prog 58 #[v] W fun e W'=>∃ p,e=.returned (.tuple #[.pointer (some ⟨p,0,none⟩),.int .i64 0])∧Below W.heap.size W W'∧IsDict W' p L∧W.heap.size≤p ∧
   (∀ w'',(∀ k,W.heap.size≤k→k<W'.heap.size→w''.heap[k]?=W'.heap[k]?)→IsDict w'' p L):=by
 have CL:=hid (frclone_any v L W h hm.1)
 obtain ⟨a,cap,rfl,hc1,hc2,hc3,hR⟩:=h.open
 obtain ⟨n,hn⟩:∃ n,n=L.length:=⟨_,rfl⟩
 have hn3:n≤300:=by rw [hn];exact hm.1
 have HM:=hid (fun i (hi:i<n)=>hm.2 i (by omega))
 rw [←hn] at hc1 hR CL ⊢
 clear hc3 h hm hn
 go_enter Tryz.func58,Tryz.ntmps58
 go_wp2
 go_loop [11,4,5] (fun s11 s4 s5=>∃ i:Nat,i≤n∧s11=.int .i64 i) (fun s11 _ _=>n-(intOf s11).toNat)
 case atStart=>exact ⟨0,by omega,rfl⟩
 case round=>
  obtain ⟨i,hin,rfl⟩:=hrel
  by_cases hlt:i<n
  · obtain ⟨b,off,rfl,hc⟩:=hR.get hlt
    have c0:=hc i hlt
    obtain ⟨h1,h2,h3⟩:=HM.out i hlt
    unfold Fr.at_ at h1 h2 h3
    obtain ⟨x,hx⟩:∃ x,x=L.getD i []:=⟨_,rfl⟩
    rw [←hx] at c0 h1 h2 h3
    have hx0:(x==[])=false:=beq_eq_false_iff_ne.2 (by intro e;rw [e] at h1;simp at h1)
    rcases Nat.eq_zero_or_pos i with h0 | h0
    · subst h0
      rw [Nat.add_zero] at c0
      clear hc hx h3
      go_wp2
      go_round
      case rel=>exact ⟨1,by omega,by go_num⟩
      case measure=>simp [intOf];omega
    · have c1:=hc (i-1) (by omega)
      have h4:=h3 h0
      obtain ⟨y,hy⟩:∃ y,y=L.getD (i-1) []:=⟨_,rfl⟩
      rw [←hy] at c1 h4
      have h4:Op.bytesLess y x=true:=h4
      clear hc hx hy h3
      go_wp2
      go_round
      case rel=>exact ⟨i+1,by omega,by go_num⟩
      case measure=>simp [intOf];omega
  · obtain rfl:i=n:=by omega
    go_wp2_with fail
    refine CL.out.mono ?_
    rintro e w1 ⟨v',rfl,hb,hT,hF⟩
    obtain ⟨a2,cap2,rfl,_,_,_,_⟩:=hT.open
    have HT:=hid hT
    have HF:=hid hF
    have HB:=hid hb
    clear hT hF
    go_wp2
    go_ret2
    refine ⟨w1.heap.size,rfl,HB.out.alloc hb.size _,⟨_,Blk.new _ _ _,HT.out.keep ((Below.refl _ _).alloc (Nat.le_refl _) _)⟩,hb.size,fun w'' hw=>⟨.slice a2 L.length cap2,?_,?_⟩⟩
    · have:=Blk.new w1 [.slice a2 L.length cap2] 166
      unfold Blk at *
      rw [hw _ hb.size (by simp)];exact this
    · refine HF.out w'' fun k h1 h2=>?_
      rw [hw k h1 (by simp;omega),Below.heap_alloc _ _ _ h2]
def Fr.fnd (L:List (List UInt8)) (t:List UInt8) (n r:Nat):Bool:=decide (r<n∧Fr.at_ L r=t)
theorem shared_any (a b:List UInt8) (W:World) (ha:a.length≤9223372036854775806) (hb:b.length≤9223372036854775806) :
  Calls Tryz.prog 104 #[str a,str b] W fun e W'=>e=.returned (.int .i64 (Fr.sh a b:Nat))∧∃ q,W'=W.drewN q:=by
 obtain ⟨hla,hlb⟩:=Fr.sh_le a b
 go_enter Tryz.func104,Tryz.ntmps104
 go_wp2
 go_loopw [5] (fun s5 wr=>∃ i q:Nat,i≤Fr.sh a b∧s5=.int .i64 i∧wr=W.drewN q) (fun s5 _=>Fr.sh a b-(intOf s5).toNat)
 case atStart=>exact ⟨0,0,by omega,rfl,rfl⟩
 case round=>
  obtain ⟨i,q,hi,rfl,rfl⟩:=hrel
  by_cases hlt:i<Fr.sh a b
  · obtain ⟨c,h1,h2⟩:=Fr.sh_same hlt
    have g1:=fun p=>ba_get a i c h1 p
    have g2:=fun p=>ba_get b i c h2 p
    have hia:i<a.length:=by omega
    have hib:i<b.length:=by omega
    clear h1 h2
    go_wp2
    go_quiet (fail)
    go_wp2
    go_roundw
    case rel=>exact ⟨i+1,_,by omega,by go_num,rfl⟩
    case measure=>simp [intOf];omega
  · have hi':i=Fr.sh a b:=by omega
    have HI:=hid hi'
    by_cases hia:i<a.length
    · by_cases hib:i<b.length
      · obtain ⟨c,h1⟩:∃ c,a[i]?=some c:=⟨_,List.getElem?_eq_getElem hia⟩
        obtain ⟨d,h2⟩:∃ c,b[i]?=some c:=⟨_,List.getElem?_eq_getElem hib⟩
        have hcd:=Fr.sh_stop (c:=c) (d:=d) (by rw [←hi'];exact h1) (by rw [←hi'];exact h2)
        have hcd2:((c.toNat:Int)==(d.toNat:Int))=false:=beq_eq_false_iff_ne.2 (fun e=>hcd (UInt8.toNat_inj.1 (by omega)))
        have g1:=fun p=>ba_get a i c h1 p
        have g2:=fun p=>ba_get b i d h2 p
        clear h1 h2 hcd hi'
        go_wp2
        go_quiet (fail)
        go_wp2
        go_ret
        exact ⟨ret_int (by rw [HI.out]),_,World.drewN_drewN _ _ _⟩
      · clear hi'
        go_wp2
        go_quiet (fail)
        go_wp2
        go_ret
        exact ⟨ret_int (by rw [HI.out]),_,World.drewN_drewN _ _ _⟩
    · clear hi'
      go_wp2
      go_quiet (fail)
      go_wp2
      go_ret
      exact ⟨ret_int (by rw [HI.out]),_,World.drewN_drewN _ _ _⟩
theorem Tryz.infofr5:(Tryz.prog.info? 5).map (fun i=>(i.zero,i.size,i.bytes))=some (some (.int .u8 0),1,1):=by kernel_rfl
theorem size_of_text (l:List UInt8):(⟨l.toArray⟩:ByteArray).size=l.length:=by simp [ByteArray.size]
theorem strCells_text (l:List UInt8):Go.Lib.strCells ⟨l.toArray⟩=(Fr.nats l).map u8v:=by
 unfold Go.Lib.strCells Fr.nats
 simp [u8v]
theorem own_built (w:World) (t:TypeId) (cur:Array Value) (n:Nat) (hs:cur.size=n) (hm:n≤maxLen) {xs:List Value} (hx:cur.toList=xs):(w.alloc (.cells cur t)).ownsRow w.heap.size t 1 (.slice (some ⟨w.heap.size,0,none⟩) n n) n xs:=by
 subst hx
 refine ⟨by simpa using hs,.inr ⟨w.heap.size,n,cur,rfl,Nat.le_refl _,heap_alloc_new w _,Nat.le_refl _,hm,by omega,?_⟩⟩
 rw [Nat.mul_one,List.take_of_length_le (by simp;omega)]
theorem own_len {w:World} {b n m:Nat} {t:TypeId} {v:Value} {xs:List Value} (h:w.ownsRow b t 1 v n xs) (e:n=m):w.ownsRow b t 1 v m xs:=e ▸ h
theorem bytes_any (p:Nat) (L:List (List UInt8)) (W:World) (h:IsDict W p L) (hm:Fr.May L) :
  Calls Tryz.prog 60 #[.pointer (some ⟨p,0,none⟩)] W fun e W'=>∃ v,e=.returned v∧Below W.heap.size W W'∧W'.ownsRow W.heap.size 5 1 v (Fr.byt L L.length).length ((Fr.byt L L.length).map u8v):=by
 obtain ⟨i0,hi,hz0,hz1,hz2⟩:=info_parts Tryz.infofr5
 obtain ⟨v,B,hT⟩:=h
 have c0:=B.cell (i:=0) (v:=v) rfl
 obtain ⟨a,cap,rfl,hc1,hc2,hc3,hR⟩:=hT.open
 obtain ⟨n,hn⟩:∃ n,n=L.length:=⟨_,rfl⟩
 have hn3:n≤300:=by rw [hn];exact hm.1
 have HM:=hid (fun i (hi:i<n)=>(hm.2 i (by omega)).2.1)
 have HL:=hid (fun k (hk:k≤n)=>Fr.byt_len hm k (by omega))
 have HC:=hid c0
 have H0:=hid (show Fr.byt L 0=[n / 256 % 256,n % 256] by rw [hn];rfl)
 rw [←hn] at hR c0 ⊢
 have HR:=hid hR
 have hw1:IntKind.u8.wrap ((n:Int) / 256)=((n / 256 % 256:Nat):Int):=by rw [IntKind.wrap_u8'];omega
 have hw2:IntKind.u8.wrap (n:Int)=((n % 256:Nat):Int):=by rw [IntKind.wrap_u8'];omega
 have SH:=hid (fun a b W ha hb=>shared_any a b W ha hb)
 rw [←hn] at HC
 clear hT B hm hc3 hn
 have cA:=fun o=>(show (W.alloc o).cell? ⟨p,0,none⟩=some (.slice a n cap) from below_keep ((Below.refl _ _).alloc (Nat.le_refl _) o) c0)
 go_enter Tryz.func60,Tryz.ntmps60
 go_wp2
 go_region
 go_wp2
 clear cA c0
 go_loopw [28,3,4,5,6] (fun s28 s3 s4 s5 s6 wr=>∃ i:Nat,i≤n∧s28=.int .i64 i∧Hid (wr.ownsRow W.heap.size 5 1 s3 (Fr.byt L i).length ((Fr.byt L i).map u8v))∧Hid (Below W.heap.size W wr)) (fun s28 _ _ _ _ _=>n-(intOf s28).toNat)
 case atStart=>
  refine ⟨0,by omega,rfl,?_,(((Below.refl _ _).alloc (Nat.le_refl _) _).drew)⟩
  rw [H0.out]
  exact own_built W 5 #[.int .u8 ((n:Int) / 256 % 256),.int .u8 ((n:Int) % 256)] 2 rfl (by unfold maxLen;omega) (by simp [u8v])
 case round=>
  obtain ⟨i,hin,rfl,OO,HB⟩:=hrel
  have hzr:=HB.out.size
  by_cases hlt:i<n
  · obtain ⟨b,off,rfl,hc⟩:=(HR.out.keep HB.out).get hlt
    have c0:=below_keep HB.out HC.out
    have c1:=hc i hlt
    have hxl:=HM.out i hlt
    have hbl:=HL.out i (by omega)
    have HX:=hid (show Fr.at_ L i=L.getD i [] from rfl)
    have hks:=Fr.shAt_le L i
    unfold Fr.at_ at hxl
    obtain ⟨x,hx⟩:∃ x,x=L.getD i []:=⟨_,rfl⟩
    rw [←hx] at c1 hxl HX
    rw [show Fr.at_ L i=x from HX.out] at hks
    rcases Nat.eq_zero_or_pos (i % 4) with h4 | h4
    · have hm4:Int.tmod (i:Int) 4=0:=by rw [Int.tmod_eq_emod_of_nonneg (by omega)];omega
      have HK:=hid (show (0:Nat)=Fr.shAt L i by unfold Fr.shAt;rw [if_pos h4])
      obtain ⟨wc,hwc⟩:∃ wc,wc=wr:=⟨_,rfl⟩
      subst hwc
      have OC:=OO
      have HBC:=HB
      have hzc:=hzr
      clear hc hx hks h4
      obtain ⟨x2,hx2⟩:∃ y,y=x.drop 0:=⟨_,rfl⟩
      have ed:(⟨x.toArray⟩:ByteArray).extract 0 x.length=⟨x2.toArray⟩:=by rw [hx2];exact ba_drop x 0
      have hl2:x2.length+0=x.length:=by rw [hx2,List.length_drop];omega
      have hwm:IntKind.u8.wrap (x.length:Int)=(x.length:Int):=by rw [IntKind.wrap_u8'];omega
      have HE:=hid (show Fr.enc L i=[0,x.length]++Fr.nats x2 by unfold Fr.enc;rw [←HK.out,show Fr.at_ L i=x from HX.out,←hx2];rfl)
      have hxi:(x.length:Int)-0=((x.length:Nat):Int):=by omega
      have HXI:=hid hxi
      clear hx2 hxi
      go_wp2_with (at_builtin;refine wpList_append_row rfl (.tmp 46) (.tmp 54) 32 rfl W.heap.size 5 i0 _ 1 Tryz.underlying32 hi hz0 hz1 hz2 rfl _ _ _ rfl (OC.out.alloc _) (some ⟨wc.heap.size,0,none⟩) 2 2 (fun j=>u8v ([0,x.length].getD j 0)) rfl ?nil ?row ?one ?b1 ?b2 ?base ?_)
      case nil=>exact fun h=>by cases h
      case row=>
       refine Or.inr ⟨_,_,rfl,fun j hj=>?_⟩
       rw [Nat.zero_add,cell_new]
       rcases (show j=0∨j=1 by omega) with rfl | rfl
       · rfl
       · exact congrArg (fun z=>some (Value.int .u8 z)) (by simp)
      case one=>intro j _;rfl
      case b1=>unfold maxLen;omega
      case b2=>omega
      case base=>simp;omega
      intro v1 w1 hown hgr
      have hb1:Below W.heap.size W w1:=(HBC.out.alloc hzc _).grown hgr (by simp;omega) (fun g hg=>(OC.out.lt g hg).1)
      have hown':w1.ownsRow W.heap.size 5 1 v1 ((Fr.byt L i).length+2) ((Fr.byt L i++[0,x.length]).map u8v):=by
       rw [List.map_append];exact hown
      have O1:=hid hown'
      have HB1:=hid hb1
      have hz1':=hb1.size
      clear hown hown' hgr hb1
      go_wp2_with (at_builtin;refine Go.Lib.wpList_append_own_string _ rfl (.tmp 56) (.tmp 59) 32 9 rfl W.heap.size 5 i0 Tryz.underlying32 Tryz.underlying9 hi hz0 hz1 hz2 v1 _ _ rfl O1.out ⟨x2.toArray⟩ rfl ?c1 ?c2 ?c3 ?_)
      case c1=>rw [size_of_text];unfold maxLen;omega
      case c2=>rw [size_of_text];omega
      case c3=>exact hz1'
      intro v2 w2 hown2 hgr2 _
      have hb2:Below W.heap.size W w2:=HB1.out.grown hgr2 hz1' (fun g hg=>(O1.out.lt g hg).1)
      rw [strCells_text] at hown2
      have hown3:w2.ownsRow W.heap.size 5 1 v2 ((Fr.byt L i).length+2+x2.length) ((Fr.byt L i++Fr.enc L i).map u8v):=by
       rw [HE.out];simpa using hown2
      have O2:=hid hown3
      have HB2:=hid hb2
      clear hown2 hown3 hgr2 hb2
      go_wp2
      go_roundw
      case rel=>exact ⟨i+1,by omega,by go_num,own_len (O2.out) (by show _=(Fr.byt L i++Fr.enc L i).length;rw [List.length_append,HE.out,List.length_append];unfold Fr.nats;rw [List.length_map];simp only [List.length_cons,List.length_nil];omega),HB2.out⟩
      case measure=>simp [intOf];omega
    · have hm4:Int.tmod (i:Int) 4=((i % 4:Nat):Int):=by rw [Int.tmod_eq_emod_of_nonneg (by omega)];omega
      have hm5:(((i % 4:Nat):Int)==0)=false:=beq_eq_false_iff_ne.2 (by omega)
      have hi0:0<i:=by omega
      have c2:=hc (i-1) (by omega)
      have hyl:=HM.out (i-1) (by omega)
      unfold Fr.at_ at hyl
      have HY:=hid (show Fr.at_ L (i-1)=L.getD (i-1) [] from rfl)
      obtain ⟨y,hy⟩:∃ y,y=L.getD (i-1) []:=⟨_,rfl⟩
      rw [←hy] at c2 hyl HY
      have SS:=hid (fun W=>SH.out y x W (by omega) (by omega))
      have hk0:Fr.shAt L i=Fr.sh y x:=by unfold Fr.shAt;rw [if_neg (by omega),show Fr.at_ L i=x from HX.out,show Fr.at_ L (i-1)=y from HY.out]
      rw [hk0] at hks
      obtain ⟨k,hk⟩:∃ k,k=Fr.sh y x:=⟨_,rfl⟩
      have HK:=hid (show k=Fr.shAt L i by rw [hk0,hk])
      rw [←hk] at SS hks
      clear hc hx hy hk hk0 h4
      go_wp2_with fail
      refine (SS.out _).mono ?_
      rintro e wc ⟨rfl,q,hq⟩
      have OC:=hid (show wc.ownsRow W.heap.size 5 1 u3 (Fr.byt L i).length ((Fr.byt L i).map u8v) by rw [hq];exact OO.out)
      have HBC:=hid (show Below W.heap.size W wc by rw [hq];exact below_drawn HB.out q)
      have hzc:=HBC.out.size
      clear hq
      obtain ⟨x2,hx2⟩:∃ y,y=x.drop k:=⟨_,rfl⟩
      have ed:(⟨x.toArray⟩:ByteArray).extract k x.length=⟨x2.toArray⟩:=by rw [hx2];exact ba_drop x k
      have hl2:x2.length+k=x.length:=by rw [hx2,List.length_drop];omega
      have hwk:IntKind.u8.wrap (k:Int)=(k:Int):=by rw [IntKind.wrap_u8'];omega
      have hwm:IntKind.u8.wrap ((x.length:Int)-k)=(x.length:Int)-k:=by rw [IntKind.wrap_u8'];omega
      have hwn:IntKind.i64.wrap ((x.length:Int)-k)=(x.length:Int)-k:=by rw [IntKind.wrap_i64];omega
      have HE:=hid (show Fr.enc L i=[k,x.length-k]++Fr.nats x2 by unfold Fr.enc;rw [←HK.out,show Fr.at_ L i=x from HX.out,←hx2])
      have hxi:(x.length:Int)-k=((x.length-k:Nat):Int):=by omega
      have HXI:=hid hxi
      clear hx2 hxi
      go_wp2_with (at_builtin;refine wpList_append_row rfl (.tmp 46) (.tmp 54) 32 rfl W.heap.size 5 i0 _ 1 Tryz.underlying32 hi hz0 hz1 hz2 rfl _ _ _ rfl (OC.out.alloc _) (some ⟨wc.heap.size,0,none⟩) 2 2 (fun j=>u8v ([k,x.length-k].getD j 0)) rfl ?nil ?row ?one ?b1 ?b2 ?base ?_)
      case nil=>exact fun h=>by cases h
      case row=>
       refine Or.inr ⟨_,_,rfl,fun j hj=>?_⟩
       rw [Nat.zero_add,cell_new]
       rcases (show j=0∨j=1 by omega) with rfl | rfl
       · rfl
       · exact congrArg (fun z=>some (Value.int .u8 z)) HXI.out
      case one=>intro j _;rfl
      case b1=>unfold maxLen;omega
      case b2=>omega
      case base=>simp;omega
      intro v1 w1 hown hgr
      have hb1:Below W.heap.size W w1:=(HBC.out.alloc hzc _).grown hgr (by simp;omega) (fun g hg=>(OC.out.lt g hg).1)
      have hown':w1.ownsRow W.heap.size 5 1 v1 ((Fr.byt L i).length+2) ((Fr.byt L i++[k,x.length-k]).map u8v):=by
       rw [List.map_append];exact hown
      have O1:=hid hown'
      have HB1:=hid hb1
      have hz1':=hb1.size
      clear hown hown' hgr hb1
      go_wp2_with (at_builtin;refine Go.Lib.wpList_append_own_string _ rfl (.tmp 56) (.tmp 59) 32 9 rfl W.heap.size 5 i0 Tryz.underlying32 Tryz.underlying9 hi hz0 hz1 hz2 v1 _ _ rfl O1.out ⟨x2.toArray⟩ rfl ?c1 ?c2 ?c3 ?_)
      case c1=>rw [size_of_text];unfold maxLen;omega
      case c2=>rw [size_of_text];omega
      case c3=>exact hz1'
      intro v2 w2 hown2 hgr2 _
      have hb2:Below W.heap.size W w2:=HB1.out.grown hgr2 hz1' (fun g hg=>(O1.out.lt g hg).1)
      rw [strCells_text] at hown2
      have hown3:w2.ownsRow W.heap.size 5 1 v2 ((Fr.byt L i).length+2+x2.length) ((Fr.byt L i++Fr.enc L i).map u8v):=by
       rw [HE.out];simpa using hown2
      have O2:=hid hown3
      have HB2:=hid hb2
      clear hown2 hown3 hgr2 hb2
      go_wp2
      go_roundw
      case rel=>exact ⟨i+1,by omega,by go_num,own_len (O2.out) (by show _=(Fr.byt L i++Fr.enc L i).length;rw [List.length_append,HE.out,List.length_append];unfold Fr.nats;rw [List.length_map];simp only [List.length_cons,List.length_nil];omega),HB2.out⟩
      case measure=>simp [intOf];omega
  · obtain rfl:i=n:=by omega
    go_wp2
    go_ret
    exact ⟨_,rfl,HB.out,OO.out⟩
end Go.Proofs.YtjaebndajhppgaaGreatDoor
namespace Go.Proofs.YtjaebndajhppgaaGreatDoor.Pm
open Go Go.ChangeShapes Go.WideShapes Go.ChangeAt Go.RowKit
end Go.Proofs.YtjaebndajhppgaaGreatDoor.Pm
namespace Go.Proofs.YtjaebndajhppgaaGreatDoor.Bn
open Go Go.ChangeShapes Go.WideShapes Go.ChangeAt Go.RowKit
theorem i64_xor_nat (a b:Nat) (ha:a<9223372036854775808) (hb:b<9223372036854775808):bits .xor .i64 (a:Int) (b:Int)=((a ^^^ b:Nat):Int):=by
 have hx:a ^^^ b<2 ^ 63:=Nat.xor_lt_two_pow (by omega) (by omega)
 show IntKind.i64.wrap ((BitVec.ofInt 64 (a:Int) ^^^ BitVec.ofInt 64 (b:Int)).toNat:Int)=_
 rw [BitVec.toNat_xor,ofInt_i64 a ha,ofInt_i64 b hb,IntKind.wrap_i64]
 omega
end Go.Proofs.YtjaebndajhppgaaGreatDoor.Bn
namespace Go.Proofs.YtjaebndajhppgaaGreatDoor
open Go Go.ChangeShapes Go.WideShapes Go.ChangeAt Go.RowKit
def BRowsAt (W:World) (v:Value) (L:List (List Nat)):Prop:=∃ V,SlV W v L.length V∧∀ i,i<L.length→BytesAt W (V i) (L.getD i [])
theorem BRowsAt.keep {W W':World} {v:Value} {L:List (List Nat)} (h:BRowsAt W v L) (hb:Below W.heap.size W W'):BRowsAt W' v L:=by
 obtain ⟨V,h1,h2⟩:=h;exact ⟨V,h1.keep hb,fun i hi=>(h2 i hi).keep hb⟩
end Go.Proofs.YtjaebndajhppgaaGreatDoor
namespace Go.Proofs.YtjaebndajhppgaaGreatDoor.Cr
open Go Go.RowKit Go.Proofs.YtjaebndajhppgaaGreatDoor.Bn
def T (x:Nat):Nat:=(2*x) ^^^ (if x.testBit 23 then 25578747 else 0)
def Tn:Nat→Nat→Nat
 | 0,x=>x
 | k+1,x=>T (Tn k x)
def step (s c:Nat):Nat:=Tn 8 (s ^^^ (65536*c))
def run (s:Nat) (l:List Nat):Nat:=l.foldl step s
def start:Nat:=11994318
def sum (l:List Nat):Nat:=run start l
theorem two_testBit (x j:Nat):(2*x).testBit j=(decide (0<j) && x.testBit (j-1)):=by
 cases j with
 | zero=>simp [Nat.testBit_zero]
 | succ j=>rw [Nat.testBit_succ,Nat.mul_div_cancel_left _ (by omega:0<2)];simp
theorem big_bit (j:Nat) (h:25≤j):Nat.testBit 25578747 j=false:=
 Nat.testBit_lt_two_pow (Nat.lt_of_lt_of_le (show 25578747<2 ^ 25 by decide) (Nat.pow_le_pow_right (by omega) h))
theorem T_lt (x:Nat) (h:x<2 ^ 24):T x<2 ^ 24:=by
 apply Nat.lt_pow_two_of_testBit
 intro j hj
 unfold T
 rw [Nat.testBit_xor,two_testBit]
 rcases Nat.lt_or_ge 24 j with h1 | h1
 · have h2:x.testBit (j-1)=false:=Nat.testBit_lt_two_pow (Nat.lt_of_lt_of_le h (Nat.pow_le_pow_right (by omega) (by omega)))
   rw [h2]
   split
   · rw [big_bit j (by omega)];simp
   · simp
 · obtain rfl:j=24:=by omega
   cases hb:x.testBit 23
   · simp [hb]
   · simp [hb];decide
theorem Tn_lt (k x:Nat) (h:x<2 ^ 24):Tn k x<2 ^ 24:=by
 induction k with
 | zero=>exact h
 | succ k ih=>exact T_lt _ ih
theorem in_lt (s c:Nat) (hs:s<2 ^ 24) (hc:c<256):s ^^^ (65536*c)<2 ^ 24:=Nat.xor_lt_two_pow hs (by omega)
theorem step_lt (s c:Nat) (hs:s<2 ^ 24) (hc:c<256):step s c<2 ^ 24:=Tn_lt _ _ (in_lt s c hs hc)
theorem run_lt (l:List Nat):∀ (s:Nat),s<2 ^ 24→(∀ i,l.getD i 0<256)→run s l<2 ^ 24:=by
 induction l with
 | nil=>intro s hs _;exact hs
 | cons c l ih=>
  intro s hs hl
  exact ih (step s c) (step_lt s c hs (by have:=hl 0;simpa [List.getD] using this)) (fun i=>by have:=hl (i+1);simpa [List.getD] using this)
theorem sum_lt (l:List Nat) (h:∀ i,l.getD i 0<256):sum l<16777216:=run_lt l start (by decide) h
theorem run_append (s:Nat) (k l:List Nat):run s (k++l)=run (run s k) l:=List.foldl_append
theorem run_take (s:Nat) (l:List Nat) (i:Nat) (h:i<l.length):run s (l.take (i+1))=step (run s (l.take i)) (l.getD i 0):=by
 rw [List.take_succ_eq_append_getElem h,run_append]
 show step _ _=_
 simp [List.getD,h]
theorem take_lt {l:List Nat} (i:Nat) (h:∀ i,l.getD i 0<256):∀ j,(l.take i).getD j 0<256:=by
 intro j
 have:=h j
 simp only [List.getD,List.getElem?_take] at this ⊢
 split
 · exact this
 · decide
end Go.Proofs.YtjaebndajhppgaaGreatDoor.Cr
namespace Go.Proofs.YtjaebndajhppgaaGreatDoor.Bx
open Go Go.RowKit Go.Proofs.YtjaebndajhppgaaGreatDoor
abbrev Sec:=Int×List Nat
def three (n:Nat):List Nat:=[n / 65536 % 256,n / 256 % 256,n % 256]
theorem three_length (n:Nat):(three n).length=3:=rfl
def entry (s:Sec):List Nat:=(s.1 % 256).toNat::(three s.2.length++three (Cr.sum s.2))
theorem entry_length (s:Sec):(entry s).length=7:=rfl
def entries (L:List Sec):List Nat:=L.flatMap entry
def bodies (L:List Sec):List Nat:=L.flatMap fun s=>s.2
def head (L:List Sec):List Nat:=[84,82,73,86,1,L.length % 256]++entries L
def file (L:List Sec):List Nat:=head L++three (Cr.sum (head L))++bodies L
def sizes (L:List Sec):Nat:=(L.map fun s=>s.2.length).sum
def total (L:List Sec):Nat:=9+7*L.length+sizes L
def rise:Int→List Sec→Prop
 | _,[]=>True
 | p,s::L=>p<s.1∧s.1≤255∧rise s.1 L
def May (L:List Sec):Prop:=L.length≤8∧rise 0 L∧total L≤100000
theorem entries_cons (s:Sec) (L:List Sec):entries (s::L)=entry s++entries L:=rfl
theorem bodies_cons (s:Sec) (L:List Sec):bodies (s::L)=s.2++bodies L:=rfl
theorem entries_length (L:List Sec):(entries L).length=7*L.length:=by
 induction L with
 | nil=>rfl
 | cons s L ih=>rw [entries_cons,List.length_append,ih,entry_length];simp;omega
theorem bodies_length (L:List Sec):(bodies L).length=sizes L:=by
 induction L with
 | nil=>rfl
 | cons s L ih=>rw [bodies_cons,List.length_append,ih];simp [sizes]
theorem head_length (L:List Sec):(head L).length=6+7*L.length:=by
 unfold head;rw [List.length_append,entries_length];rfl
theorem file_length (L:List Sec):(file L).length=total L:=by
 unfold file total;rw [List.length_append,List.length_append,head_length,bodies_length,three_length];omega
theorem rise_mem {p:Int} {L:List Sec} (h:rise p L):∀ s∈L,p<s.1∧s.1≤255:=by
 induction L generalizing p with
 | nil=>intro s hs;cases hs
 | cons t L ih=>
  intro s hs
  obtain ⟨h1,h2,h3⟩:=h
  rcases List.mem_cons.1 hs with rfl | hs
  · exact ⟨h1,h2⟩
  · have:=ih h3 s hs;exact ⟨by omega,this.2⟩
theorem size_le {L:List Sec} {s:Sec} (h:s∈L):s.2.length≤sizes L:=by
 induction L with
 | nil=>cases h
 | cons t L ih=>
  simp only [sizes,List.map_cons,List.sum_cons] at ih ⊢
  rcases List.mem_cons.1 h with rfl | h
  · omega
  · have:=ih h;omega
def Bytes (L:List Sec):Prop:=∀ s∈L,∀ i,s.2.getD i 0<256
open Classical in
theorem small {L:List Sec} (h:May L) (hb:Bytes L):∀ s∈L,s.2.length<16777216∧Cr.sum s.2<16777216:=fun s hs=>by
 have h1:=size_le hs
 have h2:=h.2.2
 unfold total at h2
 exact ⟨by omega,Cr.sum_lt _ (hb s hs)⟩
theorem sizes_take (L:List Sec) (n:Nat):sizes (L.take n)≤sizes L:=by
 have h:sizes L=sizes (L.take n)+sizes (L.drop n):=by
  unfold sizes
  rw [←List.sum_append,←List.map_append,List.take_append_drop]
 omega
def riseB:Int→List Sec→Bool
 | _,[]=>true
 | p,s::L=>(decide (p<s.1) && decide (s.1≤255)) && riseB s.1 L
theorem riseB_iff (L:List Sec):∀ p,riseB p L=true↔rise p L:=by
 induction L with
 | nil=>intro p;simp [riseB,rise]
 | cons s L ih=>intro p;simp only [riseB,rise,Bool.and_eq_true,decide_eq_true_eq,ih];constructor <;> (intro h;obtain ⟨h1,h2⟩:=h;simp_all)
def mayB (L:List Sec):Bool:=decide (L.length≤8) && riseB 0 L && decide (total L≤100000)
theorem mayB_iff (L:List Sec):mayB L=true↔May L:=by
 unfold mayB May
 simp only [Bool.and_eq_true,decide_eq_true_eq,riseB_iff]
 constructor
 · rintro ⟨⟨h1,h2⟩,h3⟩;exact ⟨h1,h2,h3⟩
 · rintro ⟨h1,h2,h3⟩;exact ⟨⟨h1,h2⟩,h3⟩
theorem drop_cons (L:List Sec) (i:Nat) (h:i<L.length):L.drop i=L[i]::L.drop (i+1):=List.drop_eq_getElem_cons h
theorem riseB_drop (L:List Sec) (p:Int) (i:Nat) (h:i<L.length):riseB p (L.drop i)=((decide (p<L[i].1) && decide (L[i].1≤255)) && riseB L[i].1 (L.drop (i+1))):=by
 rw [drop_cons L i h];rfl
theorem sizes_drop (L:List Sec) (i:Nat) (h:i<L.length):sizes (L.drop i)=L[i].2.length+sizes (L.drop (i+1)):=by
 rw [drop_cons L i h];rfl
theorem entries_snoc (L:List Sec) (i:Nat) (h:i<L.length):entries (L.take (i+1))=entries (L.take i)++entry L[i]:=by
 rw [List.take_add_one,List.getElem?_eq_getElem h]
 unfold entries
 rw [List.flatMap_append];simp
theorem bodies_snoc (L:List Sec) (i:Nat) (h:i<L.length):bodies (L.take (i+1))=bodies (L.take i)++L[i].2:=by
 rw [List.take_add_one,List.getElem?_eq_getElem h]
 unfold bodies
 rw [List.flatMap_append];simp
end Go.Proofs.YtjaebndajhppgaaGreatDoor.Bx
namespace Go.Proofs.YtjaebndajhppgaaGreatDoor
open Go.ChangeShapes Go.WideShapes Go.ChangeAt Go.RowKit
theorem Cr.xor16 (s c:Nat) (hs:s<16777216) (hc:c<256):bits BinOp.xor IntKind.i64 (s:Int) ((c:Int)*65536)=((s ^^^ (65536*c):Nat):Int):=by
 rw [show (c:Int)*65536=((65536*c:Nat):Int) by omega,Bn.i64_xor_nat _ _ (by omega) (by omega)]
theorem Cr.xorG (x:Nat) (hx:x<16777216):bits BinOp.xor IntKind.i64 ((x:Int)*2) 25578747=(((2*x) ^^^ 25578747:Nat):Int):=by
 have:=Bn.i64_xor_nat (2*x) 25578747 (by omega) (by omega)
 rw [show (x:Int)*2=((2*x:Nat):Int) by omega];exact this
theorem Cr.top (x:Nat) (hx:x<16777216):x.testBit 23=decide (8388608≤x):=by
 rw [Nat.testBit_eq_decide_div_mod_eq,decide_eq_decide]
 show x / 8388608 % 2=1↔_
 omega
theorem Cr.andTop (x:Nat) (hx:x<16777216):bits BinOp.and IntKind.i64 ((x:Int)*2) 16777216=if 8388608≤x then 16777216 else 0:=by
 have:=Bn.i64_and_nat (2*x) 16777216 (by omega) (by omega)
 rw [show (x:Int)*2=((2*x:Nat):Int) by omega]
 refine this.trans ?_
 have e:2*x &&& 16777216=if 8388608≤x then 16777216 else 0:=by
  apply Nat.eq_of_testBit_eq
  intro j
  rw [Nat.testBit_and,show 16777216=2 ^ 24 by rfl,Nat.testBit_two_pow,Cr.two_testBit]
  by_cases hj:24=j
  · subst hj
    rw [show 24-1=23 by rfl,Cr.top x hx]
    split
    · rename_i h;simp [h];decide
    · rename_i h;simp [h]
  · split
    · rw [Nat.testBit_two_pow];simp [hj]
    · simp [hj]
 rw [e]
 split <;> rfl
theorem cadd_any (s c:Nat) (w:World) (hs:s<16777216) (hc:c<256):Calls Tryz.prog 147 #[.int .i64 s,.int .u8 c] w fun e w'=>e=.returned (.int .i64 (Cr.step s c:Nat))∧w=w':=by
 obtain ⟨x0,hx0⟩:∃ x,x=s ^^^ (65536*c):=⟨_,rfl⟩
 have hx16:=Cr.xor16 s c hs hc
 have hlt:x0<2 ^ 24:=by rw [hx0];exact Cr.in_lt s c hs hc
 have hst:Cr.step s c=Cr.Tn 8 x0:=by rw [hx0];rfl
 rw [←hx0] at hx16
 rw [hst]
 have HL:=hid (fun k=>Cr.Tn_lt k x0 hlt)
 clear hx0 hlt hst
 go_enter Tryz.func147,Tryz.ntmps147
 go_wp2
 go_loop [0,10] (fun s0 s10=>∃ k:Nat,k≤8∧s0=.int .i64 (Cr.Tn k x0:Nat)∧s10=.int .i64 k) (fun _ s10=>8-(intOf s10).toNat)
 case atStart=>exact ⟨0,by omega,rfl,rfl⟩
 case round=>
  obtain ⟨k,hk,rfl,rfl⟩:=hrel
  have hx:=HL.out k
  have hT:Cr.Tn (k+1) x0=Cr.T (Cr.Tn k x0):=rfl
  by_cases hlt:k<8
  · obtain ⟨x,hx0⟩:∃ x,x=Cr.Tn k x0:=⟨_,rfl⟩
    rw [←hx0] at hx hT ⊢
    have hx24:x<16777216:=hx
    have hand:=Cr.andTop x hx24
    have hxg:=Cr.xorG x hx24
    have htop:=Cr.top x hx24
    by_cases h:8388608≤x
    · rw [if_pos h] at hand
      have hT2:Cr.Tn (k+1) x0=(2*x) ^^^ 25578747:=by rw [hT];unfold Cr.T;rw [htop,decide_eq_true h];rfl
      obtain ⟨y,hy⟩:∃ y,y=(2*x) ^^^ 25578747:=⟨_,rfl⟩
      rw [←hy] at hxg hT2
      have HT:=hid hT2
      clear hT hT2 hx0 htop hy hx
      go_wp2
      go_round
      case rel=>exact ⟨k+1,by omega,by rw [HT.out],by go_num⟩
      case measure=>simp [intOf];omega
    · rw [if_neg h] at hand
      have hT2:Cr.Tn (k+1) x0=2*x:=by rw [hT];unfold Cr.T;rw [htop,decide_eq_false h];simp
      have HT:=hid hT2
      clear hT hT2 hx0 htop hx hxg
      go_wp2
      go_round
      case rel=>exact ⟨k+1,by omega,by rw [HT.out];go_num,by go_num⟩
      case measure=>simp [intOf];omega
  · obtain rfl:k=8:=by omega
    clear hT hx
    go_wp2
    go_ret
    exact ⟨rfl,rfl⟩
theorem Cr.flat_take (L:List (List Nat)) (i:Nat) (h:i<L.length):(L.take (i+1)).flatten=(L.take i).flatten++L.getD i []:=by
 rw [List.take_succ_eq_append_getElem h,List.flatten_append]
 simp only [List.flatten_cons,List.flatten_nil,List.append_nil,List.getD,List.getElem?_eq_getElem h,Option.getD_some]
theorem Cr.flat_lt (L:List (List Nat)) (h:∀ i j,(L.getD i []).getD j 0<256):∀ j,L.flatten.getD j 0<256:=by
 have key:∀ (K:List (List Nat)),(∀ k∈K,∀ x∈k,x<256)→∀ x∈K.flatten,x<256:=by
  intro K hK x hx
  obtain ⟨k,h1,h2⟩:=List.mem_flatten.1 hx
  exact hK k h1 x h2
 have hL:∀ x∈L.flatten,x<256:=key L (fun k hk x hx=>by
  obtain ⟨i,hi,rfl⟩:=List.mem_iff_getElem.1 hk
  obtain ⟨j,hj,rfl⟩:=List.mem_iff_getElem.1 hx
  have:=h i j
  simpa [List.getD,hi,hj] using this)
 intro j
 rcases Nat.lt_or_ge j L.flatten.length with h1 | h1
 · have:=hL (L.flatten[j]) (List.getElem_mem h1)
   simp only [List.getD,List.getElem?_eq_getElem h1,Option.getD_some];exact this
 · rw [show L.flatten.getD j 0=0 by simp only [List.getD,List.getElem?_eq_none h1];rfl];decide
theorem Cr.take_rows {L:List (List Nat)} (h:∀ i j,(L.getD i []).getD j 0<256) (i:Nat):∀ k j,((L.take i).getD k []).getD j 0<256:=by
 intro k j
 have:=h k j
 by_cases hk:k<i
 · simpa [List.getD,hk] using this
 · rw [show (L.take i).getD k []=[] by simp only [List.getD,List.getElem?_take,if_neg hk];rfl];simp
theorem csum_any (v:Value) (L:List (List Nat)) (w:World) (hR:BRowsAt w v L) (hb:∀ i j,(L.getD i []).getD j 0<256) :
  Calls Tryz.prog 103 #[v] w fun e w'=>e=.returned (.int .i64 (Cr.sum L.flatten:Nat))∧w=w':=by
 obtain ⟨V,⟨a,cap,rfl,h1,h2,h3,hr⟩,hV⟩:=hR
 obtain ⟨n,hn⟩:∃ n,n=L.length:=⟨_,rfl⟩
 rw [←hn] at h1 hr hV ⊢
 have hnm:n≤9223372036854775807:=by unfold maxLen at h2;omega
 have HN:=hid hn
 have HR:=hid hr
 have HV:=hid hV
 have HB:=hid hb
 clear hn hr hV hb h3
 go_enter Tryz.func103,Tryz.ntmps103
 go_wp2
 go_loop [3,10] (fun s3 s10=>∃ i:Nat,i≤n∧s3=.int .i64 (Cr.sum (L.take i).flatten:Nat)∧s10=.int .i64 i) (fun _ s10=>n-(intOf s10).toNat)
 case atStart=>exact ⟨0,by omega,rfl,rfl⟩
 case round=>
  obtain ⟨i,hi,rfl,rfl⟩:=hrel
  by_cases hlt:i<n
  · obtain ⟨b,off,rfl,hc⟩:=HR.out.get hlt
    obtain ⟨b2,cap2,hv2,k1,k2,k3,hr2⟩:=HV.out i hlt
    have c0:=hc i hlt
    rw [hv2] at c0
    obtain ⟨m,hm⟩:∃ m,m=(L.getD i []).length:=⟨_,rfl⟩
    rw [←hm] at c0 k1 hr2
    have hmm:m≤9223372036854775807:=by unfold maxLen at k2;omega
    have hs0:=Cr.sum_lt _ (Cr.flat_lt (L.take i) (Cr.take_rows HB.out i))
    obtain ⟨s0,hs00⟩:∃ s0,s0=Cr.sum (L.take i).flatten:=⟨_,rfl⟩
    rw [←hs00] at hs0 ⊢
    have HS:=hid (show Cr.sum (L.take (i+1)).flatten=Cr.run s0 (L.getD i []) by
     rw [Cr.flat_take L i (by rw [←HN.out];exact hlt),hs00];exact Cr.run_append _ _ _)
    have HM:=hid hm
    have HR2:=hid hr2
    clear hv2 hc k3 hm hr2 hs00
    go_wp2
    go_loop [3,16] (fun s3 s16=>∃ j:Nat,j≤m∧s3=.int .i64 (Cr.run s0 ((L.getD i []).take j):Nat)∧s16=.int .i64 j) (fun _ s16=>m-(intOf s16).toNat)
    case atStart=>exact ⟨0,by omega,rfl,rfl⟩
    case round=>
     obtain ⟨j,hj,rfl,rfl⟩:=hrel
     by_cases hjl:j<m
     · obtain ⟨b3,off3,rfl,hc3⟩:=HR2.out.get hjl
       have c1:=hc3 j hjl
       have hcb:=HB.out i j
       have hsb:=Cr.run_lt ((L.getD i []).take j) s0 hs0 (Cr.take_lt j (HB.out i))
       have HT:=hid (Cr.run_take s0 (L.getD i []) j (by rw [←HM.out];exact hjl))
       obtain ⟨c,hc0⟩:∃ c,c=(L.getD i []).getD j 0:=⟨_,rfl⟩
       obtain ⟨s1,hs1⟩:∃ s1,s1=Cr.run s0 ((L.getD i []).take j):=⟨_,rfl⟩
       rw [←hs1] at hsb HT ⊢
       rw [←hc0] at hcb c1 HT
       simp only [u8v] at c1
       have CA:=hid (fun w=>cadd_any s1 c w hsb hcb)
       clear hc3 hs1 hc0
       go_wp2_with (go_at_call 147;refine (CA.out _).mono ?_;rintro e w' ⟨rfl,rfl⟩)
       go_round
       case rel=>exact ⟨j+1,by omega,by rw [HT.out],by go_num⟩
       case measure=>simp [intOf];omega
     · obtain rfl:j=m:=by omega
       have HF:=hid (show Cr.run s0 ((L.getD i []).take j)=Cr.sum (L.take (i+1)).flatten by rw [HS.out,HM.out,List.take_length])
       go_wp2
       go_round
       case rel=>exact ⟨i+1,by omega,by rw [HF.out],by go_num⟩
       case measure=>simp [intOf];omega
  · obtain rfl:i=n:=by omega
    have HF:=hid (show L.take i=L by rw [HN.out,List.take_length])
    go_wp2
    go_ret
    exact ⟨by rw [HF.out];rfl,rfl⟩
theorem one_row {W:World} {v:Value} {l:List Nat} (h:BytesAt W v l) {b:Nat} (hb:W.heap.size=b) (t:TypeId):BRowsAt (W.alloc (.cells #[v] t)) (.slice (some ⟨b,0,none⟩) 1 1) [l]:=by
 refine ⟨fun _=>v,SlV.built hb (fun i hi=>by obtain rfl:i=0:=by omega
                                             rfl) (by unfold maxLen;omega),fun i hi=>?_⟩
 obtain rfl:i=0:=by simpa using hi
 exact h.keep ((Below.refl _ _).alloc (Nat.le_refl _) _)
theorem one_row_lt {l:List Nat} (h:∀ i,l.getD i 0<256):∀ i j,([l].getD i []).getD j 0<256:=by
 intro i j
 cases i with
 | zero=>exact h j
 | succ i=>simp [List.getD]
theorem csum_one {W:World} {v:Value} {l:List Nat} (h:BytesAt W v l) (hl:∀ i,l.getD i 0<256) {b:Nat} (hb:W.heap.size=b) :
  Calls Tryz.prog 103 #[.slice (some ⟨b,0,none⟩) 1 1] (W.alloc (.cells #[v] 32)) fun e w'=>e=.returned (.int .i64 (Cr.sum l:Nat))∧W.alloc (.cells #[v] 32)=w':=by
 have:=csum_any _ [l] _ (one_row h hb 32) (one_row_lt hl)
 rwa [show [l].flatten=l by simp] at this
end Go.Proofs.YtjaebndajhppgaaGreatDoor
namespace Go.Proofs.YtjaebndajhppgaaGreatDoor.So
def texts (l:List TT):List (List UInt8):=(terms l).map sh
def num3 (t:Rg.T):List Int:=[t.1,t.2.1,t.2.2]
def numsI (l:List TT):List Int:=(ids l).flatMap num3
def wid (l:List TT):Nat:=Bn.width (terms l).length
def packed (l:List TT):List Nat:=(List.range (Pm.size (3*l.length) (wid l))).map (Pm.byte (numsI l) (wid l))
def body1 (l:List TT):List Nat:=Fr.byt (texts l) (texts l).length
def body2 (l:List TT):List Nat:=[l.length / 256 % 256,l.length % 256]++packed l
def secs (l:List TT):List Bx.Sec:=[(1,body1 l),(2,body2 l)]
def file (l:List TT):List Nat:=Bx.file (secs l)
theorem numsI_len (l:List TT):(numsI l).length=3*l.length:=by
 have h:∀ r:List Rg.T,(r.flatMap num3).length=3*r.length:=by
  intro r
  induction r with
  | nil=>rfl
  | cons t r ih=>rw [List.flatMap_cons,List.length_append,ih,List.length_cons];show 3+_=_;omega
 unfold numsI;rw [h,ids_len]
theorem texts_len (l:List TT):(texts l).length≤3*l.length:=by unfold texts;rw [List.length_map];exact terms_len l
theorem show_pos {t:T3} (h:isT t):1≤(sh t).length:=by
 obtain ⟨k,a,b⟩:=t
 obtain ⟨n,e,h1,h2⟩:=Tm.is_kind (show Tm.is ((k:Nat):Int) a b=true from h)
 have e2:k=n:=by omega
 subst e2
 show 1≤(Tm.showT k a b).length
 unfold Tm.showT
 rcases (show k=1∨k=2∨k=3∨k=4∨k=5 by omega) with rfl | rfl | rfl | rfl | rfl <;> simp
theorem show_le {t:T3} (h:isT t):(sh t).length≤250:=by
 obtain ⟨k,a,b⟩:=t
 exact (Tm.show_len (show Tm.is ((k:Nat):Int) a b=true from h)).1
theorem texts_may {l:List TT} (h:∀ p∈l,Tm.isTri p=true) (hn:l.length≤100):Fr.May (texts l):=by
 have hl:=texts_len l
 refine ⟨by omega,fun i hi=>?_⟩
 have hi2:i<(terms l).length:=by unfold texts at hi;rwa [List.length_map] at hi
 have hat:∀ j (hj:j<(terms l).length),Fr.at_ (texts l) j=sh (terms l)[j]:=fun j hj=>by
  unfold Fr.at_ texts;simp [List.getD,hj]
 refine ⟨?_,?_,fun h0=>?_⟩
 · rw [hat i hi2];exact show_pos (terms_is h _ (List.getElem_mem _))
 · rw [hat i hi2];exact show_le (terms_is h _ (List.getElem_mem _))
 · rw [hat i hi2,hat (i-1) (by omega)]
   have hc:cT (terms l)[i-1] (terms l)[i]<0:=(List.pairwise_iff_getElem.1 (terms_srt h)) (i-1) i (by omega) hi2 (by omega)
   have hb:=Tm.cmp_bound (sh (terms l)[i-1]) (sh (terms l)[i])
   exact Tm.cmp_less.1 (by unfold cT at hc;omega)
theorem numsI_mem {l:List TT} {x:Int} (h:x∈numsI l):0≤x∧x.toNat≤(terms l).length:=by
 unfold numsI at h
 obtain ⟨t,ht,hx⟩:=List.mem_flatMap.1 h
 unfold ids at ht
 obtain ⟨p,_,rfl⟩:=List.mem_map.1 ht
 have b1:=num_bound (E:=terms l) p.1
 have b2:=num_bound (E:=terms l) p.2.1
 have b3:=num_bound (E:=terms l) p.2.2
 unfold num3 nums at hx
 simp only [List.mem_cons,List.not_mem_nil,or_false] at hx
 rcases hx with rfl | rfl | rfl <;> exact ⟨by omega,by omega⟩
theorem wid_le {l:List TT} (hn:l.length≤100):wid l≤9:=(Bn.width_le _ _).2 (by have:=terms_len l;show _<512;omega)
theorem pack_may {l:List TT} (hn:l.length≤100):Pm.May (numsI l) (wid l):=by
 have hw:=wid_le hn
 have hlen:=numsI_len l
 refine ⟨by omega,by omega,by omega,fun i hi=>?_⟩
 have hm:(numsI l).getD i 0∈numsI l:=by
  have:(numsI l).getD i 0=(numsI l)[i]:=by simp [List.getD,hi]
  rw [this];exact List.getElem_mem _
 obtain ⟨h0,h1⟩:=numsI_mem hm
 refine ⟨h0,?_⟩
 have hlt:(terms l).length<2 ^ (wid l):=(Bn.width_le _ _).1 (Nat.le_refl _)
 rw [Int.toNat_natCast]
 omega
theorem size_le {l:List TT} (hn:l.length≤100):Pm.size (3*l.length) (wid l)≤338:=by
 have hw:=wid_le hn
 have h:3*l.length*wid l≤300*9:=Nat.mul_le_mul (by omega) hw
 unfold Pm.size;omega
theorem packed_len (l:List TT):(packed l).length=Pm.size (3*l.length) (wid l):=by unfold packed;simp
theorem body1_len {l:List TT} (h:∀ p∈l,Tm.isTri p=true) (hn:l.length≤100):(body1 l).length≤75602:=by
 have h1:=Fr.byt_len (texts_may h hn) (texts l).length (Nat.le_refl _)
 have h2:=texts_len l
 unfold body1;omega
theorem body2_len {l:List TT} (hn:l.length≤100):(body2 l).length≤340:=by
 have h1:=size_le hn
 unfold body2;rw [List.length_append,packed_len];show 2+_≤_;omega
theorem secs_may {l:List TT} (h:∀ p∈l,Tm.isTri p=true) (hn:l.length≤100):Bx.May (secs l):=by
 have h1:=body1_len h hn
 have h2:=body2_len hn
 refine ⟨by show 2≤8;omega,⟨by show (0:Int)<1;omega,by show (1:Int)≤255;omega,by show (1:Int)<2;omega,by show (2:Int)≤255;omega,trivial⟩,?_⟩
 show 9+7*2+((body1 l).length+((body2 l).length+0))≤100000
 omega
theorem list_lt' {l:List Nat} (h:∀ x∈l,x<256) (i:Nat):l.getD i 0<256:=by
 by_cases hi:i<l.length
 · have:l.getD i 0=l[i]:=by simp [List.getD,hi]
   rw [this];exact h _ (List.getElem_mem _)
 · have:l.getD i 0=0:=by simp [List.getD,Nat.le_of_not_lt hi]
   rw [this];omega
theorem packed_lt (l:List TT):∀ x∈packed l,x<256:=fun x hx=>by
 unfold packed at hx
 obtain ⟨t,_,rfl⟩:=List.mem_map.1 hx
 exact Pm.byte_lt _ _ _
theorem body2_lt (l:List TT):∀ x∈body2 l,x<256:=fun x hx=>by
 unfold body2 at hx
 rcases List.mem_append.1 hx with h | h
 · simp only [List.mem_cons,List.not_mem_nil,or_false] at h
   rcases h with rfl | rfl <;> exact Nat.mod_lt _ (by omega)
 · exact packed_lt l x h
theorem body1_lt {l:List TT} (h:∀ p∈l,Tm.isTri p=true) (hn:l.length≤100):∀ x∈body1 l,x<256:=Fr.byt_lt (texts_may h hn) _ (Nat.le_refl _)
theorem secs_bytes {l:List TT} (h:∀ p∈l,Tm.isTri p=true) (hn:l.length≤100):Bx.Bytes (secs l):=by
 intro s hs
 unfold secs at hs
 simp only [List.mem_cons,List.not_mem_nil,or_false] at hs
 rcases hs with rfl | rfl
 · exact list_lt' (body1_lt h hn)
 · exact list_lt' (body2_lt l)
end Go.Proofs.YtjaebndajhppgaaGreatDoor.So
