import Derived.Test.YtjhobnjdfhkohaaGreatDoorXA
import Derived.ProofKit
import Derived.Test.YtjhobnjdfhkohaaGreatDoorRows
set_option linter.all false
namespace Go.Proofs.YtjhobnjdfhkohaaGreatDoor
open Go.Proofs.Tryz
open Go.RowKit
theorem ML:laidOutB Tryz.pinned.checked.prog=true:=by kernel_rfl
theorem M3:mapsRowed Tryz.pinned.checked.prog=true:=by kernel_rfl
theorem MC:namedTie Tryz.pinned.checked.prog Rows.formedRow.named (OpenSpec.ofChange Rows.formedSpec).bare.vars=true:=by kernel_rfl
theorem LQ:(Rows.formedRow.inPlace==Tryz.pinned.checked.prog.inPlace 3)=true:=by kernel_rfl
theorem LC:(Rows.formedRow.unfollowed==Tryz.pinned.checked.prog.unfollowed 3)=true:=by kernel_rfl
theorem Mg:(Rows.formedRow.recurses==Tryz.pinned.checked.prog.recurses 3)=true:=by kernel_rfl
theorem Ll:(Rows.formedRow.named==Tryz.pinned.checked.prog.varsNamed 3)=true:=by kernel_rfl
theorem K5:(Rows.formedRow.plainKeys==Tryz.pinned.checked.prog.plainKeys)=true:=by kernel_rfl
theorem IA:Tryz.pinned.checked.prog.stopsHeard=true:=by kernel_rfl
theorem LO:Tryz.pinned.checked.prog.mayEnter=true:=by kernel_rfl
theorem Jc:(Rows.formedRow.lifted==Tryz.pinned.checked.prog.liftsFinal)=true:=by kernel_rfl
theorem closed:joinedFacts Tryz.pinned.checked.prog 3 Tryz.f3 (OpenSpec.ofChange Rows.formedSpec).bare Rows.formedRow=true:=by unfold joinedFacts;refine Bool.and_eq_true_iff.2 ⟨?_,by kernel_rfl⟩;refine Bool.and_eq_true_iff.2 ⟨?_,by kernel_rfl⟩;refine Bool.and_eq_true_iff.2 ⟨?_,by kernel_rfl⟩;refine Bool.and_eq_true_iff.2 ⟨?_,by kernel_rfl⟩;refine Bool.and_eq_true_iff.2 ⟨?_,by kernel_rfl⟩;refine Bool.and_eq_true_iff.2 ⟨?_,Jc⟩;refine Bool.and_eq_true_iff.2 ⟨?_,LO⟩;refine Bool.and_eq_true_iff.2 ⟨?_,IA⟩;refine Bool.and_eq_true_iff.2 ⟨?_,by kernel_rfl⟩;refine Bool.and_eq_true_iff.2 ⟨?_,K5⟩;refine Bool.and_eq_true_iff.2 ⟨?_,by kernel_rfl⟩;refine Bool.and_eq_true_iff.2 ⟨?_,by kernel_rfl⟩;refine Bool.and_eq_true_iff.2 ⟨?_,by kernel_rfl⟩;refine Bool.and_eq_true_iff.2 ⟨?_,by kernel_rfl⟩;refine Bool.and_eq_true_iff.2 ⟨?_,by kernel_rfl⟩;refine Bool.and_eq_true_iff.2 ⟨?_,by kernel_rfl⟩;refine Bool.and_eq_true_iff.2 ⟨?_,by kernel_rfl⟩;refine Bool.and_eq_true_iff.2 ⟨?_,by kernel_rfl⟩;refine Bool.and_eq_true_iff.2 ⟨?_,by kernel_rfl⟩;refine Bool.and_eq_true_iff.2 ⟨?_,Ll⟩;refine Bool.and_eq_true_iff.2 ⟨?_,Mg⟩;refine Bool.and_eq_true_iff.2 ⟨?_,LC⟩;refine Bool.and_eq_true_iff.2 ⟨?_,LQ⟩;refine Bool.and_eq_true_iff.2 ⟨?_,by kernel_rfl⟩;refine Bool.and_eq_true_iff.2 ⟨?_,by kernel_rfl⟩;refine Bool.and_eq_true_iff.2 ⟨?_,by kernel_rfl⟩;refine Bool.and_eq_true_iff.2 ⟨?_,by kernel_rfl⟩;refine Bool.and_eq_true_iff.2 ⟨?_,MC⟩;refine Bool.and_eq_true_iff.2 ⟨?_,by kernel_rfl⟩;refine Bool.and_eq_true_iff.2 ⟨?_,M3⟩;refine Bool.and_eq_true_iff.2 ⟨?_,ML⟩;kernel_rfl
theorem K8:Tryz.pinned.checked.prog.funcNamed Rows.formedRow.func=some 3:=by kernel_rfl
theorem Mw:Tryz.f3.isInstance Tryz.pinned.checked.prog Rows.formedRow.origin Rows.formedRow.targs:=of_decide_eq_true (by kernel_rfl)
theorem Ku:Tryz.f3.isWrapper Tryz.pinned.checked.prog Rows.formedRow.wrapper Rows.formedRow.mainSum:=by unfold Func.isWrapper;first|(rw[if_pos (by decide +kernel)];kernel_rfl)|(rw[if_neg (by decide +kernel)];exact⟨rfl,rfl⟩)
end Go.Proofs.YtjhobnjdfhkohaaGreatDoor
