package accounts

import (
	"bourse/api"
	"bourse/num"
)

// Entry moves an amount from one account to another one.
type Entry struct {
	From, To api.Account
	Amount   num.Money
}

// Deposit brings cash in, from outside.
func (l *Ledger) Deposit(member uint32, m num.Money) api.Errno {
	if why := l.payable(member, m); why != api.OK {
		return why
	}
	l.enter(api.Account{Kind: api.Outside}, cash(member), m)
	return api.OK
}

// Withdraw brings cash out, as far as there is some.
func (l *Ledger) Withdraw(member uint32, m num.Money) api.Errno {
	if why := l.payable(member, m); why != api.OK {
		return why
	}
	if l.Balance(cash(member)).Compare(m) < 0 {
		return api.ErrFunds
	}
	l.enter(cash(member), api.Account{Kind: api.Outside}, m)
	return api.OK
}

// payable is why a member can't bring an amount in or out, whatever it has.
func (l *Ledger) payable(member uint32, m num.Money) api.Errno {
	if !l.isOpen(member) {
		return api.ErrNobody
	}
	if m.Sign() <= 0 || m.Compare(num.Times(1<<32-1, 1<<64-1)) > 0 {
		return api.ErrCents
	}
	return api.OK
}

// enter moves an amount, unless it is 0.
func (l *Ledger) enter(from, to api.Account, m num.Money) {
	if m.Sign() == 0 {
		return
	}
	l.entries = append(l.entries, Entry{From: from, To: to, Amount: m})
	// One behind the other: the two may be one account.
	l.balances[from] = less(l.balances[from], m)
	l.balances[to] = plus(l.balances[to], m)
}

// Balance is what went to an account less what went from it.
func (l *Ledger) Balance(a api.Account) num.Money { return l.balances[a] }

// Entries is all entries, in their order.
func (l *Ledger) Entries() []Entry { return append([]Entry(nil), l.entries...) }
